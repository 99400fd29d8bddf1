/- Texts of one subject in one file: SlPA, SlPKey, SlPOpen. Own work. -/
import Derived.Test.YtbepchikngoknaaDoorSlN
import Derived.Test.YtbepchikngoknaaDoorFillOne
import Derived.Test.YtbepchikngoknaaDoorFillTo
import Derived.Test.YtbepchikngoknaaDoorFactX
import Derived.Test.YtbepchikngoknaaDoorLoadWanted
import Derived.Test.YtbepchikngoknaaDoorKdfP
import Derived.Test.YtbepchikngoknaaDoorWrapP
import Derived.Test.YtbepchikngoknaaDoorZed
import Derived.Test.YtbepchikngoknaaDoorSlZ
import Derived.Test.YtbepchikngoknaaDoorResults
/- The program's small functions of key slots: may a slot be; a slot out of a table by value; '==' of bytes; how many are used: contracts. Own work. -/
namespace Go.Proofs.YtbepchikngoknaaDoor
open Go.ChangeShapes Go.WideShapes Go.ChangeAt Go.RowKit
open SL
/-- An operation behind a guard that lets it be done, whose value is told. -/
theorem wpList_wanted {P : Program} {ops : Array Oper} {rest : List Oper} {op : Oper} {a : Act} {w : World} {Q : Exit → Act → World → Prop} (hw : Region.wanted op (yielded ops a.tmps) = true) (v : Value) (h : (execOp a.eval op).run P w = .ok (.value v) w) (hr : wpList P ops Q rest (a.put op.dst v) w) : wpList P ops Q (op :: rest) a w :=
  wpList_step fun K hK => by
    rw [if_pos hw]
    unfold Oper.wp
    rw [h]
    exact hK _ _ hr
/-- A slot out of a table by value. -/
theorem run_index_rowN {P : Program} (t e : TypeId) (n m : Nat) (cs ds : Array Value) (k : Nat) (h : P.underlying t = some (.array n e)) (hn : k < n) (h1 : (P.info? e).map (·.size) = some m) (ha : ∀ w, (isAgg e).run P w = .ok true w) (hv : cs.extract (k * m) (k * m + m) = ds) (w : World) :
    (Instr.index t (.agg cs) (.int .i64 k)).run P w = .ok (.agg ds) w := by
  have hk : (0 : Int) ≤ k ∧ (k : Int) < n := by omega
  cases hq : P.info? e with
  | none => simp [hq] at h1
  | some i =>
    simp [hq] at h1
    have hs : ∀ w, (sizeOf e).run P w = .ok m w := fun w => by simp [sizeOf, typeInfo, hq, h1]
    simp [Instr.index, part, run_underlying h, asIntOf, hk, hn, hs, ha, hv, go_sem]
theorem aggSl (w : World) : (isAgg 28).run Tryd.prog w = .ok true w := by kernel_rfl
theorem run_index_tab {T : List Slot} (hT : Tok T) {k : Nat} (hk : k < 8) (w : World) : (Instr.index 30 (.agg (tbc T).toArray) (.int .i64 k)).run Tryd.prog w = .ok (.agg (slc (at_ T k)).toArray) w :=
  run_index_rowN (P := Tryd.prog) 30 28 8 82 (tbc T).toArray (slc (at_ T k)).toArray k Tryd.underlying30 hk infoSl aggSl (by
    rw [List.extract_toArray]
    congr 1
    rw [List.extract_eq_take_drop, show k * 82 + 82 - k * 82 = 82 by omega, tbc_drop hT.ok k (by rw [hT.len]; exact hk)]) w
theorem pturns_any (t : Int) (w : World) : Calls Tryd.prog 55 #[.int .i64 t] w fun e w' => e = .returned (.bool (decide (1 ≤ t ∧ t ≤ 4096))) ∧ w' = w := by
  by_cases h1 : 1 ≤ t
  · by_cases h2 : t ≤ 4096
    · rw [decide_eq_true ⟨h1, h2⟩]
      go_enter Tryd.func55, Tryd.ntmps55
      go_wp2_with fail
      go_ret
      exact ⟨rfl, rfl⟩
    · rw [decide_eq_false (fun h => h2 h.2)]
      go_enter Tryd.func55, Tryd.ntmps55
      go_wp2_with fail
      go_ret
      exact ⟨rfl, rfl⟩
  · rw [decide_eq_false (fun h => h1 h.1)]
    go_enter Tryd.func55, Tryd.ntmps55
    go_wp2_with fail
    go_ret
    exact ⟨rfl, rfl⟩
theorem may_none : may none_ = true := by rw [may_not rfl]; exact decide_eq_true rfl
set_option maxRecDepth 100000 in
set_option maxHeartbeats 2000000 in
theorem pmay_any (s : Slot) (hs : Sok s) (w : World) : Calls Tryd.prog 33 #[.agg (slc s).toArray] w fun e w' => e = .returned (.bool (may s)) ∧ Below w.heap.size w w' := by
  obtain ⟨L, hL⟩ : ∃ L, L = slc s := ⟨_, rfl⟩
  obtain ⟨Z, hZ⟩ : ∃ Z, Z = slc none_ := ⟨_, rfl⟩
  obtain ⟨n, hn⟩ : ∃ n, n = s.turns := ⟨_, rfl⟩
  obtain ⟨R, hR⟩ : ∃ R, R = may s := ⟨_, rfl⟩
  have hl : L.length = 82 := by rw [hL]; exact slc_len hs
  have HIL := Lib.hid (show (Tryd.prog.info? 28).map (·.size) = some L.length by rw [hl]; exact infoSl)
  have c0 : (w.alloc (.cells L.toArray 28)).cell? ⟨w.heap.size, 0, none⟩ = some (.bool s.used) := (Blk.new w 28 L _ rfl).cell 0 _ (by rw [hL]; rfl)
  have c1 : (w.alloc (.cells L.toArray 28)).cell? ⟨w.heap.size, 1, none⟩ = some (.int .u16 (n : Int)) := (Blk.new w 28 L _ rfl).cell 1 _ (by rw [hL, hn]; rfl)
  have HB := Lib.hid (Blk.new w 28 L _ rfl)
  have hn2 : n < 65536 := by rw [hn]; exact hs.turns
  have hq := eqTypeSl
  have hbu : Tryd.prog.built 28 [] = some Z.toArray := by rw [hZ]; exact builtSl
  have he : ∀ w, (binOp .eql 28 (.agg L.toArray) (.agg Z.toArray)).run Tryd.prog w = .ok (.bool (decide (s = none_))) w := by rw [hL, hZ]; exact run_eql_slot hs none_ok
  have aw : IntKind.i64.wrap (n : Int) = (n : Int) := by rw [IntKind.wrap_i64]; omega
  rw [← hL, ← hR]
  by_cases hs0 : s = none_
  · rw [decide_eq_true hs0] at he
    obtain rfl : R = true := by rw [hR, hs0, may_none]
    clear hL hn hR hs hl hZ hn2 c0 c1 hs0
    go_enter Tryd.func33, Tryd.ntmps33
    go_wp2_with ((fail_if_success (with_reducible show bodyPost _ _ _ _ _ _)); first
      | (refine wpList_load_mid rfl 28 (.tmp 1) rfl w.heap.size 0 rfl L _ HB.out.range Tryd.underlying28 rfl HIL.out ?_)
      | (refine wpList_buildTo rfl 28 _ rfl (some 4) rfl Z.toArray (Eq.trans (b := Tryd.prog.built 28 []) (by kernel_rfl) hbu) ?_)
      | (refine wpList_bin rfl (b := .eql) (t := 28) (x := .tmp 3) (y := .tmp 4) rfl (.bool true) rfl rfl (run_eqGuard_agg _ _ _ _ _ _ _ hq) (he _) ?_))
    go_ret
    exact ⟨rfl, (Below.refl _ _).alloc (Nat.le_refl _) _⟩
  · rw [decide_eq_false hs0] at he
    cases hu : s.used with
    | false =>
      rw [hu] at c0
      obtain rfl : R = false := by rw [hR, may_not hu, decide_eq_false hs0]
      clear hL hn hR hs hl hZ hn2 c1 hs0
      go_enter Tryd.func33, Tryd.ntmps33
      go_wp2_with ((fail_if_success (with_reducible show bodyPost _ _ _ _ _ _)); first
        | (refine wpList_load_mid rfl 28 (.tmp 1) rfl w.heap.size 0 rfl L _ HB.out.range Tryd.underlying28 rfl HIL.out ?_)
        | (refine wpList_buildTo rfl 28 _ rfl (some 4) rfl Z.toArray (Eq.trans (b := Tryd.prog.built 28 []) (by kernel_rfl) hbu) ?_)
        | (refine wpList_bin rfl (b := .eql) (t := 28) (x := .tmp 3) (y := .tmp 4) rfl (.bool false) rfl rfl (run_eqGuard_agg _ _ _ _ _ _ _ hq) (he _) ?_))
      go_ret
      exact ⟨rfl, (Below.refl _ _).alloc (Nat.le_refl _) _⟩
    | true =>
      rw [hu] at c0
      have HT := Lib.hid (fun W => pturns_any (n : Int) W)
      rw [show decide (1 ≤ (n : Int) ∧ (n : Int) ≤ 4096) = R by rw [hR, may_used hu, ← hn]; exact decide_eq_decide.2 ⟨fun h => ⟨by omega, by omega⟩, fun h => ⟨by omega, by omega⟩⟩] at HT
      clear hL hn hR hs hl hZ hn2 hs0
      go_enter Tryd.func33, Tryd.ntmps33
      go_wp2_with ((fail_if_success (with_reducible show bodyPost _ _ _ _ _ _)); first
        | (refine wpList_load_mid rfl 28 (.tmp 1) rfl w.heap.size 0 rfl L _ HB.out.range Tryd.underlying28 rfl HIL.out ?_)
        | (refine wpList_buildTo rfl 28 _ rfl (some 4) rfl Z.toArray (Eq.trans (b := Tryd.prog.built 28 []) (by kernel_rfl) hbu) ?_)
        | (refine wpList_bin rfl (b := .eql) (t := 28) (x := .tmp 3) (y := .tmp 4) rfl (.bool false) rfl rfl (run_eqGuard_agg _ _ _ _ _ _ _ hq) (he _) ?_)
        | (go_at_call 55; (with_reducible refine (HT.out _).mono ?_); rintro e w3 ⟨rfl, e3⟩; subst e3))
      go_ret
      exact ⟨rfl, (Below.refl _ _).alloc (Nat.le_refl _) _⟩
theorem str_beq (S M : ByteArray) : (S.toList == M.toList) = decide (S = M) := by
  rw [ByteArray.toList_eq, ByteArray.toList_eq, Bool.eq_iff_iff, beq_iff_eq, decide_eq_true_iff]
  refine ⟨fun e => ?_, fun e => by rw [e]⟩
  cases S; cases M; congr 1; exact Array.toList_inj.1 e
theorem pequal_any (u v : Value) (l m : List Nat) (w : World) (hu : Rd w u l) (hv : Rd w v m) : Calls Tryd.prog 34 #[u, v] w fun e w' => e = .returned (.bool (decide (l = m))) ∧ w' = w := by
  obtain ⟨ua, uc, rfl, _⟩ := hu.shape
  obtain ⟨va, vc, rfl, _⟩ := hv.shape
  have cu := hu.str
  have cv := hv.str
  have hd : decide (bstr l = bstr m) = decide (l = m) := decide_eq_decide.2 (bstr_iff hu.byte hv.byte)
  have hb := str_beq (bstr l) (bstr m)
  rw [hd] at hb
  obtain ⟨S, hS⟩ : ∃ S, S = bstr l := ⟨_, rfl⟩
  obtain ⟨M, hM⟩ : ∃ S, S = bstr m := ⟨_, rfl⟩
  obtain ⟨R, hR⟩ : ∃ R, R = decide (l = m) := ⟨_, rfl⟩
  obtain ⟨ln, hln⟩ : ∃ n, n = l.length := ⟨_, rfl⟩
  obtain ⟨mn, hmn⟩ : ∃ n, n = m.length := ⟨_, rfl⟩
  rw [← hS, ← hM, ← hR] at hb
  have HB := Lib.hid hb
  rw [← hS, ← hln] at cu
  rw [← hM, ← hmn] at cv
  rw [← hR, ← hln, ← hmn]
  clear hu hv hd hS hM hR hln hmn hb
  go_enter Tryd.func34, Tryd.ntmps34
  go_wp2_with fail
  go_ret
  exact ⟨by rw [← HB.out]; rfl, rfl⟩
set_option maxRecDepth 100000 in
set_option maxHeartbeats 1000000 in
theorem sused_any (T : List Slot) (hT : Tok T) (w : World) : Calls Tryd.prog 13 #[.agg (tbc T).toArray] w fun e w' => e = .returned (.int .i64 (used T : Int)) ∧ Below w.heap.size w w' := by
  obtain ⟨L, hL⟩ : ∃ L, L = tbc T := ⟨_, rfl⟩
  obtain ⟨D1, hD1⟩ : ∃ D, D = slc none_ := ⟨_, rfl⟩
  have hz1 : ∀ w, (zeroValue 28).run Tryd.prog w = .ok (.agg D1.toArray) w := by rw [hD1]; exact zeroSl
  have hd1 : D1.length = 82 := by rw [hD1]; exact slc_len none_ok
  have L656 := Lib.hid (show L.length = 656 by rw [hL]; exact tbc_len hT)
  have HIX := Lib.hid (fun k (hk : k < 8) w => run_index_tab hT hk w)
  rw [← hL] at HIX
  rw [← hL, ← usedTo_all hT]
  have HT := Lib.hid hT
  have HL := Lib.hid hL
  have T1 := Lib.hid (Blk.new w 30 L _ rfl)
  have W1 := Lib.hid ((Below.refl w.heap.size w).alloc (Nat.le_refl _) (.cells L.toArray 30))
  clear hT hL hD1
  go_enter Tryd.func13, Tryd.ntmps13
  go_wp2_with (refine wpList_load_mid rfl 30 (.tmp 1) rfl w.heap.size 0 rfl L _ T1.out.range Tryd.underlying30 rfl (by rw [L656.out]; exact infoTb) ?_)
  go_loopw [3, 7] (fun x i wr => ∃ k : Nat, k ≤ 8 ∧ i = .int .i64 (k : Int) ∧ x = .int .i64 (usedTo T k : Int) ∧ Below w.heap.size w wr) (fun _ i _ => 8 - (intOf i).toNat)
  case atStart => exact ⟨0, by decide, rfl, rfl, W1.out⟩
  case round =>
    clear T1 W1
    obtain ⟨k, hk, rfl, rfl, hbw⟩ := hrel
    have BW := Lib.hid hbw
    clear hbw
    by_cases hlt : k < 8
    · have hs := usedTo_succ HT.out hlt
      have hle := usedTo_le T k
      have hix := HIX.out k hlt
      have HS := Lib.hid (HT.out.at_ hlt)
      obtain ⟨s, hse⟩ : ∃ s, s = at_ T k := ⟨_, rfl⟩
      rw [← hse] at hs hix HS
      obtain ⟨SC, hSC⟩ : ∃ C, C = slc s := ⟨_, rfl⟩
      rw [← hSC] at hix
      have S82 := Lib.hid (show SC.length = 82 by rw [hSC]; exact slc_len HS.out)
      have SONE := Lib.hid (show SC.toArray.all (·.oneCell') = true by rw [hSC]; exact slc_all _)
      have HC0 := Lib.hid (fun W b (h : Blk W b 28 SC) => (show W.cell? ⟨b, 0, none⟩ = some (.bool s.used) from h.cell 0 _ (by rw [hSC]; rfl)))
      have hklt : (k : Int) < 8 := by omega
      obtain ⟨y, hy⟩ : ∃ y, y = usedTo T k := ⟨_, rfl⟩
      rw [← hy] at hs hle ⊢
      clear hse hSC HS hy
      cases hu : s.used with
      | true =>
        rw [hu] at hs HC0
        have HS2 := Lib.hid (show usedTo T (k + 1) = y + 1 from hs)
        clear hs hu
        go_wp2_with ((fail_if_success (with_reducible show bodyPost _ _ _ _ _ _)); first
          | (refine wpList_store_blk rfl 28 (.tmp 5) (.tmp 9) rfl wr.heap.size 0 SC rfl rfl 28 D1 (Blk.new wr 28 D1 _ rfl) (by rw [S82.out, hd1]; exact Nat.le_refl _) (by rw [S82.out]; exact infoSl) SONE.out ?_; intro w3 b3 g3; rw [splice_all _ _ (by rw [S82.out, hd1])] at b3; have c0 := HC0.out _ _ b3; have W3 := Lib.hid (BW.out.on (alloc_turn (Below.refl _ _) g3)); clear b3 g3))
        exact ⟨⟨k + 1, by omega, by go_num, by rw [HS2.out]; go_num, W3.out⟩, by simp [intOf]; omega⟩
      | false =>
        rw [hu] at hs HC0
        have HS2 := Lib.hid (show usedTo T (k + 1) = y from hs)
        clear hs hu
        go_wp2_with ((fail_if_success (with_reducible show bodyPost _ _ _ _ _ _)); first
          | (refine wpList_store_blk rfl 28 (.tmp 5) (.tmp 9) rfl wr.heap.size 0 SC rfl rfl 28 D1 (Blk.new wr 28 D1 _ rfl) (by rw [S82.out, hd1]; exact Nat.le_refl _) (by rw [S82.out]; exact infoSl) SONE.out ?_; intro w3 b3 g3; rw [splice_all _ _ (by rw [S82.out, hd1])] at b3; have c0 := HC0.out _ _ b3; have W3 := Lib.hid (BW.out.on (alloc_turn (Below.refl _ _) g3)); clear b3 g3))
        exact ⟨⟨k + 1, by omega, by go_num, by rw [HS2.out], W3.out⟩, by simp [intOf]; omega⟩
    · obtain rfl : k = 8 := by omega
      go_wp2_with fail
      go_ret
      exact ⟨rfl, BW.out⟩
end Go.Proofs.YtbepchikngoknaaDoor
/- The program's key of a slot, a slot that a passphrase makes, and a slot that it opens: contracts. Written by gen_slpkey.py. Own work. -/
namespace Go.Proofs.YtbepchikngoknaaDoor
open Go.ChangeShapes Go.WideShapes Go.ChangeAt Go.RowKit
open SM AM WM SL
/-- A slice becomes a pointer to an array. -/
theorem wpList_s2a {P : Program} {ops : Array Oper} {rest : List Oper} {o : Oper} {a : Act} {w : World} {Q : Exit → Act → World → Prop} (hgd : o.guard = none) {ty : TypeId} {x : Operand} (ho : o.op = .sliceToArrayPointer ty x) {m : Nat} {e : TypeId} (hu : P.underlying ty = some (.array m e)) {p : Option Addr} {n c : Nat} (hx : a.eval x = .slice p n c) (hn : m ≤ n)
    (h : wpList P ops Q rest (a.put o.dst (.pointer p)) w) : wpList P ops Q (o :: rest) a w := by
  refine wpList_plain hgd fun _ hK => ?_
  have hq : ¬ n < m := by omega
  have e : (execOp a.eval o).run P w = .ok (.value (.pointer p)) w := by
    unfold execOp
    rw [ho]
    simp only [hx]
    simp [Instr.arrayAt, run_underlying hu, hq, go_sem]
  unfold Oper.wp
  rw [e]
  exact hK _ _ h
theorem rd_rangeAt {w : World} {b o n cap : Nat} {l : List Nat} (h : Rd w (.slice (some ⟨b, o, none⟩) n cap) l) : w.rangeAt b o (row8 l) := fun j v hv => by
  have hj : j < l.length := by
    rcases Nat.lt_or_ge j l.length with h | h
    · exact h
    · rw [List.getElem?_eq_none (by rw [row8_len]; exact h)] at hv; cases hv
  obtain ⟨b2, o2, e, hc⟩ := rd_spot h j hj
  cases e
  rw [row8_val l j hj] at hv
  obtain rfl := Option.some.inj hv
  exact hc
set_option maxRecDepth 100000 in
set_option maxHeartbeats 1000000 in
theorem pkey_any (p salt : List Nat) (t : Nat) (v : Value) (w : World) (hp : p.length ≤ 512) (hs : Bytes 16 salt) (h1 : 1 ≤ t) (h2 : t ≤ 4096) (hv : Rd w v p) (hT : TabP w) :
    Calls Tryd.prog 57 #[v, .agg (row8 salt).toArray, .int .i64 (t : Int)] w fun e w' => e = .returned (.agg (row8 (key p salt t)).toArray) ∧ Below w.heap.size w w' := by
  obtain ⟨va, vc, rfl, hvc⟩ := hv.shape
  obtain ⟨he, hk⟩ := kerr_none hp hs h1 h2
  have hb := key_bytes p salt t
  obtain ⟨S, hS⟩ : ∃ S, S = row8 salt := ⟨_, rfl⟩
  obtain ⟨K, hK⟩ : ∃ K, K = key p salt t := ⟨_, rfl⟩
  obtain ⟨D0, hD0⟩ : ∃ D, D = row8 (List.replicate 32 0) := ⟨_, rfl⟩
  have hz : ∀ w, (zeroValue 25).run Tryd.prog w = .ok (.agg D0.toArray) w := by rw [hD0]; exact zeroK2
  have hd0 : D0.length = 32 := by rw [hD0, row8_len, List.length_replicate]
  have w1 := (Below.refl w.heap.size w).alloc (Nat.le_refl _) (.cells S.toArray 23)
  have w2 := w1.alloc w1.size (.cells D0.toArray 25)
  have hb1 := (Blk.new w 23 S _ rfl).alloc (.cells D0.toArray 25)
  have hb2 := Blk.new (w.alloc (.cells S.toArray 23)) 25 D0 (w.heap.size + 1) (by simp)
  have hr : Rd ((w.alloc (.cells S.toArray 23)).alloc (.cells D0.toArray 25)) (.slice (some ⟨w.heap.size, 0, none⟩) 16 16) salt := rd_range (by rw [← hS]; exact hb1.range) hs (by decide)
  have F := Lib.hid (kderive_any p salt (t : Int) 32 _ _ _ ((hv.alloc _).alloc _) hr (hT.below w2))
  rw [he, hk, ← hK] at F
  rw [← hK, ← hS]
  rw [← hK] at hb
  have W2 := Lib.hid w2
  have B2 := Lib.hid hb2
  have HK := Lib.hid hb
  clear hv hT he hk hK hS hs hp h1 h2 w1 w2 hb1 hb2 hr hvc hD0
  go_enter Tryd.func57, Tryd.ntmps57
  go_upto_region 2 with (first
    | (go_at_call 24; (with_reducible refine F.out.mono ?_); rintro e w4 ⟨y, rfl, r4, b4⟩; obtain ⟨ya, yc, rfl, _⟩ := r4.shape; have R4 := Lib.hid r4; have W4 := Lib.hid (W2.out.on b4); have B4 := Lib.hid (B2.out.below b4 B2.out.lt); clear r4 b4)
    | fail)
  obtain ⟨yb, yo, rfl, _⟩ := rd_spot R4.out 0 (by rw [HK.out.1]; decide)
  have K32 := Lib.hid (show (row8 K).length = 32 by rw [row8_len]; exact HK.out.1)
  have HRG := Lib.hid (rd_rangeAt R4.out)
  rw [HK.out.1]
  clear hb F W2 B2 R4
  go_wp2_with (first
    | (refine wpList_s2a rfl (ty := 25) (x := .tmp 16) rfl Tryd.underlying25 rfl (by decide) ?_)
    | (refine wpList_load_mid rfl 25 (.tmp 17) rfl yb yo rfl (row8 K) _ HRG.out Tryd.underlying25 rfl (by rw [K32.out]; exact infoK2) ?_)
    | (refine wpList_store_blk rfl 25 (.tmp 6) (.tmp 18) rfl (w.heap.size + 1) 0 (row8 K) rfl rfl 25 D0 B4.out (by rw [K32.out, hd0]; exact Nat.le_refl _) (by rw [K32.out]; exact infoK2) (row8_one _) ?_; intro w5 b5 g5; rw [splice_all _ _ (by rw [K32.out, hd0])] at b5; have U5 := Lib.hid b5; have W5 := Lib.hid (W4.out.grown g5 W4.out.size (fun g hg => by have := Option.some.inj hg; omega)); clear b5 g5))
  exact bodyPost_ret (results_mid rfl _ _ (w.heap.size + 1) (row8 K) _ rfl U5.out.range Tryd.underlying25 rfl (by rw [K32.out]; exact infoK2)) rfl ⟨rfl, W5.out⟩
/-- A list of so many values, one by one. -/
theorem of_len {n : Nat} {l : List Value} (h : l.length = n) : l = (List.range n).map fun i => l.getD i undef := by
  apply List.ext_getElem
  · simp [h]
  · intro i h1 h2
    rw [List.getElem_map, List.getElem_range, List.getD_eq_getElem?_getD, List.getElem?_eq_getElem h1]; rfl
theorem builtMadeN (t : Int) (f g h : Nat → Value) : Tryd.prog.built 28 [(0, .bool true), (1, .int .u16 t), (2, .agg ((List.range 16).map f).toArray), (3, .agg ((List.range 32).map g).toArray), (4, .agg ((List.range 32).map h).toArray)] = some (.bool true :: .int .u16 t :: ((List.range 16).map f ++ ((List.range 32).map g ++ (List.range 32).map h))).toArray := by kernel_rfl
theorem builtMade (t : Int) (a b c : List Value) (ha : a.length = 16) (hb : b.length = 32) (hc : c.length = 32) : Tryd.prog.built 28 [(0, .bool true), (1, .int .u16 t), (2, .agg a.toArray), (3, .agg b.toArray), (4, .agg c.toArray)] = some (.bool true :: .int .u16 t :: (a ++ (b ++ c))).toArray := by
  have h := builtMadeN t (fun i => a.getD i undef) (fun i => b.getD i undef) (fun i => c.getD i undef)
  rw [← of_len ha, ← of_len hb, ← of_len hc] at h
  exact h
theorem zeroSm2 (w : World) : (zeroValue 26).run Tryd.prog w = .ok (.agg (row8 (List.replicate 32 0)).toArray) w := by kernel_rfl
set_option maxRecDepth 100000 in
set_option maxHeartbeats 2000000 in
theorem psealed_any (p salt m : List Nat) (t : Nat) (v : Value) (w : World) (hp : p.length ≤ 512) (hs : Bytes 16 salt) (h1 : 1 ≤ t) (h2 : t ≤ 4096) (hm : Bytes 32 m) (hv : Rd w v p) (ha : TabX w) (hk : TabP w) :
    Calls Tryd.prog 44 #[v, .agg (row8 salt).toArray, .int .i64 (t : Int), .agg (row8 m).toArray] w fun e w' => e = .returned (.agg (slc (made p salt t m)).toArray) ∧ Below w.heap.size w w' := by
  obtain ⟨va, vc, rfl, _⟩ := hv.shape
  obtain ⟨pl, hpl⟩ : ∃ n, n = p.length := ⟨_, rfl⟩
  obtain ⟨K, hK⟩ : ∃ K, K = key p salt t := ⟨_, rfl⟩
  obtain ⟨Q, hQ⟩ : ∃ Q, Q = wseal K m := ⟨_, rfl⟩
  obtain ⟨C, hC⟩ : ∃ C, C = wcheck K Q := ⟨_, rfl⟩
  have bK : Bytes 32 K := by rw [hK]; exact key_bytes _ _ _
  have bQ : Bytes 32 Q := by rw [hQ]; exact wseal_bytes K hm
  have bC : Bytes 32 C := by rw [hC]; exact wcheck_bytes K Q
  have hmade : made p salt t m = ⟨true, t, salt, Q, C⟩ := by unfold made; rw [hC, hQ, hK]
  have F82 := Lib.hid (show (slc (made p salt t m)).length = 82 by rw [hmade]; exact slc_len ⟨by show t < 65536; omega, hs, bQ, bC⟩)
  have HBD := Lib.hid (show Tryd.prog.built 28 [(0, .bool true), (1, .int .u16 (t : Int)), (2, .agg (row8 salt).toArray), (3, .agg (row8 Q).toArray), (4, .agg (row8 C).toArray)] = some (slc (made p salt t m)).toArray by
    rw [builtMade _ _ _ _ (by rw [row8_len]; exact hs.1) (by rw [row8_len]; exact bQ.1) (by rw [row8_len]; exact bC.1), hmade]; rfl)
  obtain ⟨F, hF⟩ : ∃ F, F = slc (made p salt t m) := ⟨_, rfl⟩
  have FONE := Lib.hid (show F.toArray.all (·.oneCell') = true by rw [hF]; exact slc_all _)
  rw [← hF] at HBD F82 ⊢
  have A16 := Lib.hid (show (row8 salt).length = 16 by rw [row8_len]; exact hs.1)
  have M32 := Lib.hid (show (row8 m).length = 32 by rw [row8_len]; exact hm.1)
  have Q32 := Lib.hid (show (row8 Q).length = 32 by rw [row8_len]; exact bQ.1)
  have C32 := Lib.hid (show (row8 C).length = 32 by rw [row8_len]; exact bC.1)
  obtain ⟨D1, hD1⟩ : ∃ D, D = slc none_ := ⟨_, rfl⟩
  obtain ⟨D0, hD0⟩ : ∃ D, D = row8 (List.replicate 32 0) := ⟨_, rfl⟩
  have hz1 : ∀ w, (zeroValue 28).run Tryd.prog w = .ok (.agg D1.toArray) w := by rw [hD1]; exact zeroSl
  have hz : ∀ w, (zeroValue 25).run Tryd.prog w = .ok (.agg D0.toArray) w := by rw [hD0]; exact zeroK2
  have hzs : ∀ w, (zeroValue 26).run Tryd.prog w = .ok (.agg D0.toArray) w := by rw [hD0]; exact zeroSm2
  have hd0 : D0.length = 32 := by rw [hD0, row8_len, List.length_replicate]
  have hd1 : D1.length = 82 := by rw [hD1]; exact slc_len none_ok
  have x1 := (Below.refl w.heap.size w).alloc (Nat.le_refl _) (.cells (row8 salt).toArray 23)
  have x2 := x1.alloc x1.size (.cells (row8 m).toArray 25)
  have x3 := x2.alloc x2.size (.cells D1.toArray 28)
  obtain ⟨w3, hw3⟩ : ∃ x, x = ((w.alloc (.cells (row8 salt).toArray 23)).alloc (.cells (row8 m).toArray 25)).alloc (.cells D1.toArray 28) := ⟨_, rfl⟩
  have X3 := Lib.hid (show Below w.heap.size w w3 by rw [hw3]; exact x3)
  have S3 := Lib.hid (show Blk w3 w.heap.size 23 (row8 salt) by rw [hw3]; exact ((Blk.new w _ (row8 salt) _ rfl).alloc _).alloc _)
  have M3 := Lib.hid (show Blk w3 (w.heap.size + 1) 25 (row8 m) by rw [hw3]; exact (Blk.new (w.alloc (.cells (row8 salt).toArray 23)) 25 (row8 m) (w.heap.size + 1) (by simp)).alloc _)
  have R3 := Lib.hid (show Blk w3 (w.heap.size + 1 + 1) 28 D1 by rw [hw3]; exact Blk.new ((w.alloc (.cells (row8 salt).toArray 23)).alloc (.cells (row8 m).toArray 25)) 28 D1 (w.heap.size + 1 + 1) (by simp))
  have HW3 := Lib.hid hw3
  have HKEY := Lib.hid (fun W (hW : Below w3.heap.size w3 W) => pkey_any p salt t (.slice va p.length vc) W hp hs h1 h2 ((hv.below X3.out).below hW) ((hk.below X3.out).below hW))
  rw [← hK, ← hpl] at HKEY
  have HSEAL := Lib.hid (fun W (hW : Below w3.heap.size w3 W) => pseal_any K m bK hm W ((ha.below X3.out).below hW) ((hk.below X3.out).below hW))
  rw [← hQ, ← hC] at HSEAL
  have aw : IntKind.u16.wrap (t : Int) = (t : Int) := by rw [IntKind.wrap_u16]; omega
  rw [← hpl]
  clear hv hp hs h1 h2 ha hk hK bK hm hQ hC bQ bC hmade hF hD1 hD0 x1 x2 x3 hw3 hpl
  go_enter Tryd.func44, Tryd.ntmps44
  go_upto_region 1 with fail
  rw [← HW3.out]
  clear HW3
  refine wp_region_sq (by kernel_rfl) 13 (by decide) (fun i => [12, 13, 14, 15, 16, 17, 11, 18, 19, 9, 10, 9, 10].getD i 0) (by kernel_rfl) (by kernel_rfl) (by kernel_rfl) (w3.heap.size) (Nat.le_refl _) [.val (.slice va pl vc), .val (.agg (row8 salt).toArray), .val (.int .i64 (t : Int)), .val (.agg (row8 K).toArray), .val (.agg (row8 m).toArray), .val (.tuple #[.agg (row8 Q).toArray, .agg (row8 C).toArray]), .val (.tuple #[.agg (row8 Q).toArray, .agg (row8 C).toArray]), .val (.agg (row8 Q).toArray), .val (.agg (row8 C).toArray), .blk 25 D0, .blk 26 D0, .blk 25 (row8 Q), .blk 26 (row8 C)] (fun j => if j = 10 then 12 else if j = 9 then 11 else 13) ?_ ?_
  · refine ⟨?_, ?_, ?_, ?_, ?_, ?_, ?_, ?_, ?_, ?_, ?_, ?_, ?_, trivial⟩
    · intro a w' hF hB hd
      have e0 : a.eval (.tmp 0) = .slice va pl vc := hF 0 (by decide +kernel)
      exact DoesG.toS (doesG_val rfl (ex_move rfl e0) rfl rfl) nofun (by decide +kernel)
    · intro a w' hF hB hd
      have e5 : a.eval (.tmp 5) = .pointer (some ⟨w.heap.size, 0, none⟩) := hF 5 (by decide +kernel)
      exact DoesG.toS (doesG_wp rfl rfl fun K' hK' => wp_load_mid 23 (.tmp 5) rfl w.heap.size 0 e5 (row8 salt) _ ((S3.out.below hB S3.out.lt).range) Tryd.underlying23 rfl (by rw [A16.out]; exact info162) (hK' _ _ rfl (Below.refl _ _))) nofun (by decide +kernel)
    · intro a w' hF hB hd
      have e2 : a.eval (.tmp 2) = .int .i64 (t : Int) := hF 2 (by decide +kernel)
      exact DoesG.toS (doesG_val rfl (ex_move rfl e2) rfl rfl) nofun (by decide +kernel)
    · intro a w' hF hB hd
      have e12 : a.eval (.tmp 12) = .slice va pl vc := hd 0 (by decide +kernel) (.inr (by decide))
      have e13 : a.eval (.tmp 13) = .agg (row8 salt).toArray := hd 1 (by decide +kernel) (.inr (by decide))
      have e14 : a.eval (.tmp 14) = .int .i64 (t : Int) := hd 2 (by decide +kernel) (.inr (by decide))
      exact DoesG.toS (doesG_call rfl (ex_call (vs := #[.slice va pl vc, .agg (row8 salt).toArray, .int .i64 (t : Int)]) rfl (by simp only [List.map_toArray, List.map_cons, List.map_nil, e12, e13, e14]) (by go_simp)) rfl ((HKEY.out w' hB).mono fun e w2 hh => ⟨_, hh.1, rfl, hh.2⟩)) nofun (by decide +kernel)
    · intro a w' hF hB hd
      have e7 : a.eval (.tmp 7) = .pointer (some ⟨w.heap.size + 1, 0, none⟩) := hF 7 (by decide +kernel)
      exact DoesG.toS (doesG_wp rfl rfl fun K' hK' => wp_load_mid 25 (.tmp 7) rfl (w.heap.size + 1) 0 e7 (row8 m) _ ((M3.out.below hB M3.out.lt).range) Tryd.underlying25 rfl (by rw [M32.out]; exact infoK2) (hK' _ _ rfl (Below.refl _ _))) nofun (by decide +kernel)
    · intro a w' hF hB hd
      have e15 : a.eval (.tmp 15) = .agg (row8 K).toArray := hd 3 (by decide +kernel) (.inr (by decide))
      have e16 : a.eval (.tmp 16) = .agg (row8 m).toArray := hd 4 (by decide +kernel) (.inr (by decide))
      exact DoesG.toS (doesG_call rfl (ex_call (vs := #[.agg (row8 K).toArray, .agg (row8 m).toArray]) rfl (by simp only [List.map_toArray, List.map_cons, List.map_nil, e15, e16]) (by go_simp)) rfl ((HSEAL.out w' hB).mono fun e w2 hh => ⟨_, hh.1, rfl, hh.2⟩)) nofun (by decide +kernel)
    · intro a w' hF hB hd
      have e17 : a.eval (.tmp 17) = .tuple #[.agg (row8 Q).toArray, .agg (row8 C).toArray] := hd 5 (by decide +kernel) (.inr (by decide))
      exact DoesG.toS (doesG_val rfl (ex_move rfl e17) rfl rfl) nofun (by decide +kernel)
    · intro a w' hF hB hd
      have e11 : a.eval (.tmp 11) = .tuple #[.agg (row8 Q).toArray, .agg (row8 C).toArray] := hd 6 (by decide +kernel) (.inr (by decide))
      exact DoesG.toS (doesG_val rfl (v := .agg (row8 Q).toArray) (by unfold execOp; simp only [e11]; go_simp) rfl rfl) nofun (by decide +kernel)
    · intro a w' hF hB hd
      have e11 : a.eval (.tmp 11) = .tuple #[.agg (row8 Q).toArray, .agg (row8 C).toArray] := hd 6 (by decide +kernel) (.inr (by decide))
      exact DoesG.toS (doesG_val rfl (v := .agg (row8 C).toArray) (by unfold execOp; simp only [e11]; go_simp) rfl rfl) nofun (by decide +kernel)
    · intro a w' hF hB hd
      exact DoesG.toS (doesG_alloc rfl 25 D0 rfl hz hB.size rfl) nofun (by decide +kernel)
    · intro a w' hF hB hd
      exact DoesG.toS (doesG_alloc rfl 26 D0 rfl hzs hB.size rfl) nofun (by decide +kernel)
    · intro a w' hF hB hd
      have e9 := hd 9 (by decide +kernel) (.inl (by decide))
      have e18 : a.eval (.tmp 18) = .agg (row8 Q).toArray := hd 7 (by decide +kernel) (.inr (by decide))
      exact doesS_store rfl 25 25 9 (.tmp 18) rfl rfl 9 (by decide +kernel) (by decide) D0 (row8 Q) rfl rfl rfl e9 e18 (by rw [Q32.out, hd0]) (by rw [Q32.out]; exact infoK2) (row8_one _) rfl
    · intro a w' hF hB hd
      have e10 := hd 10 (by decide +kernel) (.inl (by decide))
      have e19 : a.eval (.tmp 19) = .agg (row8 C).toArray := hd 8 (by decide +kernel) (.inr (by decide))
      exact doesS_store rfl 26 26 10 (.tmp 19) rfl rfl 10 (by decide +kernel) (by decide) D0 (row8 C) rfl rfl rfl e10 e19 (by rw [C32.out, hd0]) (by rw [C32.out]; exact infoS) (row8_one _) rfl
  · intro vs w5 hb hss hv hap
    obtain ⟨kb, ek, hkb, hkk⟩ : ∃ c, vs 11 = .pointer (some ⟨c, 0, none⟩) ∧ w3.heap.size ≤ c ∧ Blk w5 c 25 (row8 Q) := hv 11 (by decide) (by decide)
    obtain ⟨cb, ec, hcb, hcc⟩ : ∃ c, vs 12 = .pointer (some ⟨c, 0, none⟩) ∧ w3.heap.size ≤ c ∧ Blk w5 c 26 (row8 C) := hv 12 (by decide) (by decide)
    have e9 : vs 9 = .pointer (some ⟨kb, 0, none⟩) := by rw [← ek]; exact hss 9 11 (by decide)
    have e10 : vs 10 = .pointer (some ⟨cb, 0, none⟩) := by rw [← ec]; exact hss 10 12 (by decide)
    simp only [List.take_succ_cons, List.take_zero, List.drop_succ_cons, List.drop_zero, putOps, Act.put, List.setIfInBounds_toArray, List.set_cons_zero, List.set_cons_succ, e9, e10]
    have S5 := Lib.hid (S3.out.below hb S3.out.lt)
    have R5 := Lib.hid (R3.out.below hb R3.out.lt)
    have W5 := Lib.hid (X3.out.on hb)
    have K5 := Lib.hid hkk
    have C5 := Lib.hid hcc
    clear hv hap hss ek ec e9 e10 hb hkb hcb hkk hcc S3 R3 X3 M3 HKEY HSEAL
    generalize vs 0 = y0 at *; generalize vs 1 = y1 at *; generalize vs 2 = y2 at *; generalize vs 3 = y3 at *; generalize vs 4 = y4 at *; generalize vs 5 = y5 at *; generalize vs 6 = y6 at *; generalize vs 7 = y7 at *; generalize vs 8 = y8 at *
    go_wp2_with (first
      | (refine wpList_load_mid rfl 23 (.tmp 5) rfl w.heap.size 0 rfl (row8 salt) _ S5.out.range Tryd.underlying23 rfl (by rw [A16.out]; exact info162) ?_)
      | (refine wpList_load_mid rfl 25 (.tmp 9) rfl kb 0 rfl (row8 Q) _ K5.out.range Tryd.underlying25 rfl (by rw [Q32.out]; exact infoK2) ?_)
      | (refine wpList_load_mid rfl 26 (.tmp 10) rfl cb 0 rfl (row8 C) _ C5.out.range Tryd.underlying26 rfl (by rw [C32.out]; exact infoS) ?_)
      | (refine wpList_buildTo rfl 28 _ rfl (some 25) rfl F.toArray (Eq.trans (b := Tryd.prog.built 28 [(0, .bool true), (1, .int .u16 (t : Int)), (2, .agg (row8 salt).toArray), (3, .agg (row8 Q).toArray), (4, .agg (row8 C).toArray)]) (by kernel_rfl) HBD.out) ?_)
      | (refine wpList_store_blk rfl 28 (.tmp 8) (.tmp 25) rfl (w.heap.size + 1 + 1) 0 F rfl rfl 28 D1 R5.out (by rw [F82.out, hd1]; exact Nat.le_refl _) (by rw [F82.out]; exact infoSl) FONE.out ?_; intro w6 b6 g6; rw [splice_all _ _ (by rw [F82.out, hd1])] at b6; have U6 := Lib.hid b6; have W6 := Lib.hid (W5.out.grown g6 W5.out.size (fun g hg => by have := Option.some.inj hg; omega)); clear b6 g6))
    exact bodyPost_ret (results_mid rfl _ _ (w.heap.size + 1 + 1) F _ rfl U6.out.range Tryd.underlying28 rfl (by rw [F82.out]; exact infoSl)) rfl ⟨rfl, W6.out⟩
/-- What a passphrase has of a slot. -/
def serr (s : Slot) (p : List Nat) : Int := if opensAt p s then 0 else 30
def skey (s : Slot) (p : List Nat) : List Nat := if opensAt p s then wopen (key p s.salt s.turns) s.sld s.chk else List.replicate 32 0
theorem skey_bytes {s : Slot} (h : Sok s) (p : List Nat) : Bytes 32 (skey s p) := by
  unfold skey; split
  · exact wopen_bytes _ h.sld _
  · exact bytes_zero 32
def OA (w1 : World) (rb : Nat) (C : List Value) (K : List Nat) : Nat → Told → World → Prop
  | 0, _, w => w = w1
  | 1, _, w => Below w1.heap.size w1 w
  | 2, _, w => Below w1.heap.size w1 w
  | _, _, w => Blk w rb 25 (splice C 0 (row8 K)) ∧ w1.grownBy w (some rb)
set_option maxRecDepth 100000 in
set_option maxHeartbeats 2000000 in
theorem popenslot_any (s : Slot) (hs : Sok s) (p : List Nat) (v : Value) (w : World) (hp : p.length ≤ 512) (hv : Rd w v p) (ha : TabX w) (hk : TabP w) :
    Calls Tryd.prog 36 #[.agg (slc s).toArray, v] w fun e w' => e = .returned (.tuple #[.agg (row8 (skey s p)).toArray, .int .i64 (serr s p)]) ∧ Below w.heap.size w w' := by
  obtain ⟨va, vc, rfl, _⟩ := hv.shape
  obtain ⟨pl, hpl⟩ : ∃ n, n = p.length := ⟨_, rfl⟩
  obtain ⟨L, hL⟩ : ∃ L, L = slc s := ⟨_, rfl⟩
  obtain ⟨D0, hD0⟩ : ∃ D, D = row8 (List.replicate 32 0) := ⟨_, rfl⟩
  have hz : ∀ w, (zeroValue 25).run Tryd.prog w = .ok (.agg D0.toArray) w := by rw [hD0]; exact zeroK2
  have hd0 : D0.length = 32 := by rw [hD0, row8_len, List.length_replicate]
  have hbk : Tryd.prog.built 25 [] = some D0.toArray := by rw [hD0]; kernel_rfl
  have HONE0 := Lib.hid (show D0.toArray.all (·.oneCell') = true by rw [hD0]; exact row8_one _)
  have L82 := Lib.hid (show L.length = 82 by rw [hL]; exact slc_len hs)
  have x1 := (Below.refl w.heap.size w).alloc (Nat.le_refl _) (.cells L.toArray 28)
  have x2 := x1.alloc x1.size (.cells D0.toArray 25)
  obtain ⟨w2, hw2⟩ : ∃ x, x = (w.alloc (.cells L.toArray 28)).alloc (.cells D0.toArray 25) := ⟨_, rfl⟩
  have W2 := Lib.hid (show Below w.heap.size w w2 by rw [hw2]; exact x2)
  have S2 := Lib.hid (show Blk w2 w.heap.size 28 L by rw [hw2]; exact (Blk.new w _ L _ rfl).alloc _)
  have R2 := Lib.hid (show Blk w2 (w.heap.size + 1) 25 D0 by rw [hw2]; exact Blk.new (w.alloc (.cells L.toArray 28)) 25 D0 (w.heap.size + 1) (by simp))
  have HW2 := Lib.hid hw2
  have HM := Lib.hid (fun W => pmay_any s hs W)
  rw [← hL] at HM
  have c0 : w2.cell? ⟨w.heap.size, 0, none⟩ = some (.bool s.used) := S2.out.cell 0 _ (by rw [hL]; rfl)
  have HS := Lib.hid hs
  have HLE := Lib.hid hL
  have HV := Lib.hid hv
  have HA := Lib.hid ha
  have HK := Lib.hid hk
  have HSH := Lib.hid hp
  have HD0 := Lib.hid hD0
  rw [← hpl] at HV ⊢
  rw [← hL]
  clear hv ha hk hs hL hp hpl hD0 x1 x2 hw2
  have hno : (s.used = false ∨ may s = false) → (Ending.returned (.tuple #[.agg D0.toArray, .int .i64 30]) : Ending) = .returned (.tuple #[.agg (row8 (skey s p)).toArray, .int .i64 (serr s p)]) := fun h => by
    have e := opensAt_no (p := p) h
    unfold skey serr
    rw [e, HD0.out]; rfl
  have HNO := Lib.hid hno
  clear hno
  cases hu : s.used with
  | false =>
    have RES := HNO.out (.inl hu)
    rw [hu] at c0
    go_enter Tryd.func36, Tryd.ntmps36
    go_upto_region 1 with fail
    rw [← HW2.out]
    clear HW2
    go_wp2_with (first
            | (refine wpList_buildTo rfl 25 _ rfl (some 14) rfl D0.toArray (Eq.trans (b := Tryd.prog.built 25 []) (by kernel_rfl) hbk) ?_)
            | (refine wpList_store_blk rfl 25 (.tmp 4) (.tmp 14) rfl (w.heap.size + 1) 0 D0 rfl rfl 25 D0 R2.out (Nat.le_of_eq (Nat.zero_add _)) (by rw [hd0]; exact infoK2) HONE0.out ?_; intro w5 b5 g5; rw [splice_all _ _ rfl] at b5; have U5 := Lib.hid b5; have W5 := Lib.hid (W2.out.grown g5 W2.out.size (fun g hg => by have := Option.some.inj hg; omega)); clear b5 g5))
    exact bodyPost_ret (results_mid2 rfl _ _ (w.heap.size + 1) D0 _ rfl U5.out.range Tryd.underlying25 rfl (by rw [hd0]; exact infoK2)) rfl ⟨Eq.trans (b := Ending.returned (.tuple #[.agg D0.toArray, .int .i64 30])) rfl RES, W5.out⟩
  | true =>
    rw [hu] at c0
    cases hm : may s with
    | false =>
      have RES := HNO.out (.inr hm)
      rw [hm] at HM
      go_enter Tryd.func36, Tryd.ntmps36
      go_upto_region 1 with fail
      rw [← HW2.out]
      clear HW2
      go_wp2_with (first
            | (refine wpList_load_wanted rfl 28 (.tmp 2) rfl w.heap.size 0 rfl L _ S2.out.range Tryd.underlying28 rfl (by rw [L82.out]; exact infoSl) ?_)
            | (go_at_call 33; (with_reducible refine (HM.out _).mono ?_); rintro e w3 ⟨rfl, b3⟩; have S3 := Lib.hid (S2.out.below b3 S2.out.lt); have R3 := Lib.hid (R2.out.below b3 R2.out.lt); have W3 := Lib.hid (W2.out.on b3); clear b3)
            | (refine wpList_buildTo rfl 25 _ rfl (some 14) rfl D0.toArray (Eq.trans (b := Tryd.prog.built 25 []) (by kernel_rfl) hbk) ?_)
            | (refine wpList_store_blk rfl 25 (.tmp 4) (.tmp 14) rfl (w.heap.size + 1) 0 D0 rfl rfl 25 D0 R3.out (Nat.le_of_eq (Nat.zero_add _)) (by rw [hd0]; exact infoK2) HONE0.out ?_; intro w5 b5 g5; rw [splice_all _ _ rfl] at b5; have U5 := Lib.hid b5; have W5 := Lib.hid (W3.out.grown g5 W3.out.size (fun g hg => by have := Option.some.inj hg; omega)); clear b5 g5))
      exact bodyPost_ret (results_mid2 rfl _ _ (w.heap.size + 1) D0 _ rfl U5.out.range Tryd.underlying25 rfl (by rw [hd0]; exact infoK2)) rfl ⟨Eq.trans (b := Ending.returned (.tuple #[.agg D0.toArray, .int .i64 30])) rfl RES, W5.out⟩
    | true =>
      rw [hm] at HM
      have hmt := may_turns hu hm
      have hoe := opensAt_eq (p := p) hu hm
      obtain ⟨tn, htn⟩ : ∃ n, n = s.turns := ⟨_, rfl⟩
      obtain ⟨salt, hsalt⟩ : ∃ n, n = s.salt := ⟨_, rfl⟩
      obtain ⟨sld, hsld⟩ : ∃ n, n = s.sld := ⟨_, rfl⟩
      obtain ⟨chk, hchk⟩ : ∃ n, n = s.chk := ⟨_, rfl⟩
      have bsalt := HS.out.salt
      have bsld := HS.out.sld
      have bchk := HS.out.chk
      have HTN := Lib.hid (fun W (h : Blk W w.heap.size 28 L) => (show W.cell? ⟨w.heap.size, 1, none⟩ = some (.int .u16 (tn : Int)) from h.cell 1 _ (by rw [HLE.out, htn]; rfl)))
      have HSA := Lib.hid (fun W (h : Blk W w.heap.size 28 L) => (show W.rangeAt w.heap.size 2 (row8 salt) by rw [HLE.out] at h; rw [hsalt]; exact h.salt))
      have HSD := Lib.hid (fun W (h : Blk W w.heap.size 28 L) => (show W.rangeAt w.heap.size 18 (row8 sld) by rw [HLE.out] at h; rw [hsld]; exact h.sld HS.out))
      have HSC := Lib.hid (fun W (h : Blk W w.heap.size 28 L) => (show W.rangeAt w.heap.size 50 (row8 chk) by rw [HLE.out] at h; rw [hchk]; exact h.chk HS.out))
      rw [← hsalt] at bsalt
      rw [← hsld] at bsld
      rw [← hchk] at bchk
      rw [← htn] at hmt
      rw [← htn, ← hsalt, ← hsld, ← hchk] at hoe
      obtain ⟨K, hK⟩ : ∃ K, K = key p salt tn := ⟨_, rfl⟩
      have bK : Bytes 32 K := by rw [hK]; exact key_bytes _ _ _
      obtain ⟨M, hM⟩ : ∃ M, M = wopen K sld chk := ⟨_, rfl⟩
      obtain ⟨E, hE⟩ : ∃ E, E = werr K sld chk := ⟨_, rfl⟩
      have bM : Bytes 32 M := by rw [hM]; exact wopen_bytes K bsld chk
      have M32 := Lib.hid (show (row8 M).length = 32 by rw [row8_len]; exact bM.1)
      have A16 := Lib.hid (show (row8 salt).length = 16 by rw [row8_len]; exact bsalt.1)
      have Q32 := Lib.hid (show (row8 sld).length = 32 by rw [row8_len]; exact bsld.1)
      have C32 := Lib.hid (show (row8 chk).length = 32 by rw [row8_len]; exact bchk.1)
      have RES : (Ending.returned (.tuple #[.agg (row8 M).toArray, .int .i64 E]) : Ending) = .returned (.tuple #[.agg (row8 (skey s p)).toArray, .int .i64 (serr s p)]) := by
        unfold skey serr
        rw [hoe, ← hK, ← hE, ← htn, ← hsalt, ← hsld, ← hchk, ← hK, ← hM]
        rcases werr_or K sld chk with h | h
        · rw [hE, h]; rfl
        · have e : M = List.replicate 32 0 := by
            rw [hM]; unfold wopen
            unfold werr at h
            split at h
            · cases h
            · rename_i q; rw [if_neg q]
          rw [hE, h, e]; rfl
      have aw : IntKind.i64.wrap (tn : Int) = (tn : Int) := by have := hmt.2; rw [IntKind.wrap_i64]; omega
      go_enter Tryd.func36, Tryd.ntmps36
      go_upto_region 1 with fail
      rw [← HW2.out]
      clear HW2
      go_upto_region 3 with (first
            | (refine wpList_load_wanted rfl 28 (.tmp 2) rfl w.heap.size 0 rfl L _ S2.out.range Tryd.underlying28 rfl (by rw [L82.out]; exact infoSl) ?_)
            | (go_at_call 33; (with_reducible refine (HM.out _).mono ?_); rintro e w3 ⟨rfl, b3⟩; have S3 := Lib.hid (S2.out.below b3 S2.out.lt); have R3 := Lib.hid (R2.out.below b3 R2.out.lt); have W3 := Lib.hid (W2.out.on b3); clear b3))
      obtain ⟨w1, hw1⟩ : ∃ x, x = w3.drew := ⟨_, rfl⟩
      have HW1 := Lib.hid hw1
      have X1 := Lib.hid (show Below w.heap.size w w1 by rw [hw1]; exact W3.out.on (Below.refl _ _).drew)
      have S1 := Lib.hid (show Blk w1 w.heap.size 28 L by rw [hw1]; exact S3.out.drew)
      have R1 := Lib.hid (show Blk w1 (w.heap.size + 1) 25 D0 by rw [hw1]; exact R3.out.drew)
      have HKEY := Lib.hid (fun W (hW : Below w1.heap.size w1 W) => pkey_any p salt tn (.slice va pl vc) W HSH.out bsalt hmt.1 hmt.2 ((HV.out.below X1.out).below hW) ((HK.out.below X1.out).below hW))
      rw [← hK] at HKEY
      have HOPN := Lib.hid (fun W (hW : Below w1.heap.size w1 W) => popen_any K sld chk bK bsld bchk W ((HA.out.below X1.out).below hW) ((HK.out.below X1.out).below hW))
      rw [← hM, ← hE] at HOPN
      clear hw1 htn hsalt hsld hchk hK hM hE hmt hoe bsalt bsld bchk bK bM S2 R2 W2 W3 S3 R3 c0
      refine wp_region_z (by kernel_rfl) [6, 11, 14] (by kernel_rfl) (by kernel_rfl) (Stg [6, 11, 14] (OA w1 (w.heap.size + 1) D0 M)) [.pre (.slice va pl vc), .pre (.pointer (some ⟨w.heap.size, 2, none⟩)), .pre (.agg (row8 salt).toArray), .pre (.pointer (some ⟨w.heap.size, 1, none⟩)), .pre (.int .u16 (tn : Int)), .pre (.int .i64 (tn : Int)), .pre (.agg (row8 K).toArray), .pre (.pointer (some ⟨w.heap.size, 18, none⟩)), .pre (.agg (row8 sld).toArray), .pre (.pointer (some ⟨w.heap.size, 50, none⟩)), .pre (.agg (row8 chk).toArray), .pre (.tuple #[.agg (row8 M).toArray, .int .i64 E]), .pre (.agg (row8 M).toArray), .pre (.int .i64 E), .any, .pre (.int .i64 E)] (fun i hi hq => by
                    simp only [List.mem_cons, List.mem_nil_iff, or_false] at hi
                    rcases hi with rfl | rfl | rfl
                    · exact absurd hq (by decide +kernel)
                    · exact absurd hq (by decide +kernel)
                    · rfl) (Stg.zero (show _ = w1 from HW1.out.symm)) ?_ ?_
      · refine ⟨?_, ?_, ?_, ?_, ?_, ?_, ?_, ?_, ?_, ?_, ?_, ?_, ?_, ?_, ?_, ?_, trivial⟩
        · intro a w5 r hF hI hns hri h1 h2 hd
          have e1 : a.eval (.tmp 1) = .slice va pl vc := hF 1 (by decide +kernel)
          exact doesZ_read (v := .slice va pl vc) (by decide) rfl (ex_move rfl e1) hI rfl
        · intro a w5 r hF hI hns hri h1 h2 hd
          have e2 : a.eval (.tmp 2) = .pointer (some ⟨w.heap.size, 0, none⟩) := hF 2 (by decide +kernel)
          exact doesZ_read (v := .pointer (some ⟨w.heap.size, 2, none⟩)) (by decide) rfl (ex_fieldAddr rfl e2 (by go_simp)) hI rfl
        · intro a w5 r hF hI hns hri h1 h2 hd
          have e16 : a.eval (.tmp 16) = .pointer (some ⟨w.heap.size, 2, none⟩) := hd 1 (by decide +kernel)
          have hA : OA w1 (w.heap.size + 1) D0 M 0 r w5 := hI.at_ 0 (.inl rfl) (.inr ⟨by decide, h1 6 (by decide) (by decide +kernel)⟩)
          have hw : w5 = w1 := hA
          subst hw
          have hrr := HSA.out _ (S1.out)
          exact doesZ_ld (by decide) rfl 23 (.tmp 16) rfl w.heap.size 2 e16 (row8 salt) hrr _ Tryd.underlying23 rfl (by rw [A16.out]; exact info162) hI rfl
        · intro a w5 r hF hI hns hri h1 h2 hd
          have e2 : a.eval (.tmp 2) = .pointer (some ⟨w.heap.size, 0, none⟩) := hF 2 (by decide +kernel)
          exact doesZ_read (v := .pointer (some ⟨w.heap.size, 1, none⟩)) (by decide) rfl (ex_fieldAddr rfl e2 (by go_simp)) hI rfl
        · intro a w5 r hF hI hns hri h1 h2 hd
          have e18 : a.eval (.tmp 18) = .pointer (some ⟨w.heap.size, 1, none⟩) := hd 3 (by decide +kernel)
          have hA : OA w1 (w.heap.size + 1) D0 M 0 r w5 := hI.at_ 0 (.inl rfl) (.inr ⟨by decide, h1 6 (by decide) (by decide +kernel)⟩)
          have hw : w5 = w1 := hA
          subst hw
          have ct := HTN.out _ S1.out
          exact doesZ_read (v := .int .u16 (tn : Int)) (by decide) rfl (by unfold execOp; simp only [e18]; go_simp) hI rfl
        · intro a w5 r hF hI hns hri h1 h2 hd
          have e19 : a.eval (.tmp 19) = .int .u16 (tn : Int) := hd 4 (by decide +kernel)
          exact doesZ_read (v := .int .i64 (tn : Int)) (by decide) rfl (ex_convert rfl e19 (by go_simp)) hI rfl
        · intro a w5 r hF hI hns hri h1 h2 hd
          have e15 : a.eval (.tmp 15) = .slice va pl vc := hd 0 (by decide +kernel)
          have e17 : a.eval (.tmp 17) = .agg (row8 salt).toArray := hd 2 (by decide +kernel)
          have e20 : a.eval (.tmp 20) = .int .i64 (tn : Int) := hd 5 (by decide +kernel)
          have hA : OA w1 (w.heap.size + 1) D0 M 0 r w5 := hI.at_ 0 (.inl rfl) (.inr ⟨by decide, hri⟩)
          have hw : w5 = w1 := hA
          subst hw
          exact doesZ_call (by decide) rfl (ex_call (vs := #[.slice va pl vc, .agg (row8 salt).toArray, .int .i64 (tn : Int)]) rfl (by simp only [List.map_toArray, List.map_cons, List.map_nil, e15, e17, e20]) (by go_simp)) ((HKEY.out _ (Below.refl _ _)).mono fun e w6 hh => by obtain ⟨he, hl⟩ := hh; exact ⟨_, he, hI.next 0 6 _ rfl (by decide) (.inl rfl) hri (by decide) (hl), rfl⟩)
        · intro a w5 r hF hI hns hri h1 h2 hd
          have e2 : a.eval (.tmp 2) = .pointer (some ⟨w.heap.size, 0, none⟩) := hF 2 (by decide +kernel)
          exact doesZ_read (v := .pointer (some ⟨w.heap.size, 18, none⟩)) (by decide) rfl (ex_fieldAddr rfl e2 (by go_simp)) hI rfl
        · intro a w5 r hF hI hns hri h1 h2 hd
          have e22 : a.eval (.tmp 22) = .pointer (some ⟨w.heap.size, 18, none⟩) := hd 7 (by decide +kernel)
          obtain ⟨k, hk1, hk2, hA⟩ : ∃ k, 0 ≤ k ∧ k ≤ 1 ∧ OA w1 (w.heap.size + 1) D0 M k r w5 := hI.between 0 1 (.inl rfl) (.inr ⟨by decide, h1 11 (by decide) (by decide +kernel)⟩)
          have hb1 : Below w1.heap.size w1 w5 := by
            rcases (show k = 0 ∨ k = 1 by omega) with rfl | rfl
            · rw [show w5 = w1 from hA]; exact Below.refl _ _
            · exact hA
          have hrr := HSD.out _ (S1.out.below hb1 S1.out.lt)
          exact doesZ_ld (by decide) rfl 25 (.tmp 22) rfl w.heap.size 18 e22 (row8 sld) hrr _ Tryd.underlying25 rfl (by rw [Q32.out]; exact infoK2) hI rfl
        · intro a w5 r hF hI hns hri h1 h2 hd
          have e2 : a.eval (.tmp 2) = .pointer (some ⟨w.heap.size, 0, none⟩) := hF 2 (by decide +kernel)
          exact doesZ_read (v := .pointer (some ⟨w.heap.size, 50, none⟩)) (by decide) rfl (ex_fieldAddr rfl e2 (by go_simp)) hI rfl
        · intro a w5 r hF hI hns hri h1 h2 hd
          have e24 : a.eval (.tmp 24) = .pointer (some ⟨w.heap.size, 50, none⟩) := hd 9 (by decide +kernel)
          obtain ⟨k, hk1, hk2, hA⟩ : ∃ k, 0 ≤ k ∧ k ≤ 1 ∧ OA w1 (w.heap.size + 1) D0 M k r w5 := hI.between 0 1 (.inl rfl) (.inr ⟨by decide, h1 11 (by decide) (by decide +kernel)⟩)
          have hb1 : Below w1.heap.size w1 w5 := by
            rcases (show k = 0 ∨ k = 1 by omega) with rfl | rfl
            · rw [show w5 = w1 from hA]; exact Below.refl _ _
            · exact hA
          have hrr := HSC.out _ (S1.out.below hb1 S1.out.lt)
          exact doesZ_ld (by decide) rfl 26 (.tmp 24) rfl w.heap.size 50 e24 (row8 chk) hrr _ Tryd.underlying26 rfl (by rw [C32.out]; exact infoS) hI rfl
        · intro a w5 r hF hI hns hri h1 h2 hd
          have e21 : a.eval (.tmp 21) = .agg (row8 K).toArray := hd 6 (by decide +kernel)
          have e23 : a.eval (.tmp 23) = .agg (row8 sld).toArray := hd 8 (by decide +kernel)
          have e25 : a.eval (.tmp 25) = .agg (row8 chk).toArray := hd 10 (by decide +kernel)
          have hA : OA w1 (w.heap.size + 1) D0 M 1 r w5 := hI.at_ 1 (.inr ⟨by decide, h2 6 (by decide) (by decide +kernel)⟩) (.inr ⟨by decide, hri⟩)
          have hA : Below w1.heap.size w1 w5 := hA
          exact doesZ_call (by decide) rfl (ex_call (vs := #[.agg (row8 K).toArray, .agg (row8 sld).toArray, .agg (row8 chk).toArray]) rfl (by simp only [List.map_toArray, List.map_cons, List.map_nil, e21, e23, e25]) (by go_simp)) ((HOPN.out _ hA).mono fun e w6 hh => by obtain ⟨he, hl⟩ := hh; exact ⟨_, he, hI.next 1 11 _ rfl (by decide) (.inr ⟨by decide, h2 6 (by decide) (by decide +kernel)⟩) hri (by decide) (hA.on hl), rfl⟩)
        · intro a w5 r hF hI hns hri h1 h2 hd
          have e26 : a.eval (.tmp 26) = .tuple #[.agg (row8 M).toArray, .int .i64 E] := hd 11 (by decide +kernel)
          exact doesZ_read (v := .agg (row8 M).toArray) (by decide) rfl (by unfold execOp; simp only [e26]; go_simp) hI rfl
        · intro a w5 r hF hI hns hri h1 h2 hd
          have e26 : a.eval (.tmp 26) = .tuple #[.agg (row8 M).toArray, .int .i64 E] := hd 11 (by decide +kernel)
          exact doesZ_read (v := .int .i64 E) (by decide) rfl (by unfold execOp; simp only [e26]; go_simp) hI rfl
        · intro a w5 r hF hI hns hri h1 h2 hd
          have e4 : a.eval (.tmp 4) = .pointer (some ⟨w.heap.size + 1, 0, none⟩) := hF 4 (by decide +kernel)
          have e27 : a.eval (.tmp 27) = .agg (row8 M).toArray := hd 12 (by decide +kernel)
          have hA : OA w1 (w.heap.size + 1) D0 M 2 r w5 := hI.at_ 2 (.inr ⟨by decide, h2 11 (by decide) (by decide +kernel)⟩) (.inr ⟨by decide, hri⟩)
          have hA : Below w1.heap.size w1 w5 := hA
          have hb := R1.out.below hA R1.out.lt
          exact doesZ_put (by decide) rfl 25 (.tmp 4) (.tmp 27) rfl (w.heap.size + 1) 0 (row8 M) e4 e27 25 D0 hb (by rw [M32.out, hd0]; exact Nat.le_refl _) (by rw [M32.out]; exact infoK2) (row8_one _) rfl (fun w' o' g' => hI.next 2 14 _ rfl (by decide) (.inr ⟨by decide, h2 11 (by decide) (by decide +kernel)⟩) hri (by decide) ⟨o', only_trans (grown_of_below hA _) g'⟩)
        · intro a w5 r hF hI hns hri h1 h2 hd
          have e28 : a.eval (.tmp 28) = .int .i64 E := hd 13 (by decide +kernel)
          exact doesZ_read (v := .int .i64 E) (by decide) rfl (ex_assign rfl e28) hI rfl
      · intro vs r w5 hI hS hvs
        obtain ⟨bl5, g5⟩ := hI.at_ 3 (.inr ⟨by decide, hS 14 (by decide)⟩) (.inl rfl)
        rw [splice_all _ _ (by rw [M32.out, hd0])] at bl5
        have ee : vs 15 = .int .i64 E := hvs 15 (by decide)
        have B5 := Lib.hid bl5
        have W5 := Lib.hid (X1.out.grown g5 X1.out.size (fun g hg => by have := Option.some.inj hg; omega))
        clear hI hS hvs bl5 g5
        simp only [putOps, Act.put, List.setIfInBounds_toArray, List.set_cons_zero, List.set_cons_succ, ee]
        go_wp2_with fail
        exact bodyPost_ret (results_mid2 rfl _ _ (w.heap.size + 1) (row8 M) _ rfl B5.out.range Tryd.underlying25 rfl (by rw [M32.out]; exact infoK2)) rfl ⟨Eq.trans (b := Ending.returned (.tuple #[.agg (row8 M).toArray, .int .i64 E])) rfl RES, W5.out⟩
end Go.Proofs.YtbepchikngoknaaDoor
/- The program's passphrases: which key is opened, and by which slot; added, removed, put in the place of others: contracts. Written by gen_slpopen.py. Own work. -/
namespace Go.Proofs.YtbepchikngoknaaDoor
open Go.ChangeShapes Go.WideShapes Go.ChangeAt Go.RowKit
open SM AM WM SL
set_option maxRecDepth 100000 in
set_option maxHeartbeats 4000000 in
theorem sopen_any (T : List Slot) (hT : Tok T) (p : List Nat) (v : Value) (w : World) (hv : Rd w v p) (ha : TabX w) (hk : TabP w) :
    Calls Tryd.prog 19 #[.agg (tbc T).toArray, v] w fun e w' => e = .returned (.tuple #[.agg (row8 (okey T p)).toArray, .int .i64 (oidx T p : Int), .int .i64 (oerr T p)]) ∧ Below w.heap.size w w' := by
  obtain ⟨va, vc, rfl, _⟩ := hv.shape
  obtain ⟨L, hL⟩ : ∃ L, L = tbc T := ⟨_, rfl⟩
  obtain ⟨pl, hpl⟩ : ∃ n, n = p.length := ⟨_, rfl⟩
  obtain ⟨D0, hD0⟩ : ∃ D, D = row8 (List.replicate 32 0) := ⟨_, rfl⟩
  obtain ⟨D1, hD1⟩ : ∃ D, D = slc none_ := ⟨_, rfl⟩
  obtain ⟨RK, hRK⟩ : ∃ x, x = okey T p := ⟨_, rfl⟩
  obtain ⟨RI, hRI⟩ : ∃ x, x = oidx T p := ⟨_, rfl⟩
  obtain ⟨RE, hRE⟩ : ∃ x, x = oerr T p := ⟨_, rfl⟩
  have hz : ∀ w, (zeroValue 25).run Tryd.prog w = .ok (.agg D0.toArray) w := by rw [hD0]; exact zeroK2
  have hz1 : ∀ w, (zeroValue 28).run Tryd.prog w = .ok (.agg D1.toArray) w := by rw [hD1]; exact zeroSl
  have hd0 : D0.length = 32 := by rw [hD0, row8_len, List.length_replicate]
  have hd1 : D1.length = 82 := by rw [hD1]; exact slc_len none_ok
  have hbk : Tryd.prog.built 25 [] = some D0.toArray := by rw [hD0]; kernel_rfl
  have w1 := (Below.refl w.heap.size w).alloc (Nat.le_refl _) (.cells L.toArray 30)
  have W2 := Lib.hid (w1.alloc w1.size (.cells D0.toArray 25))
  have T2 := Lib.hid ((Blk.new w 30 L _ rfl).alloc (.cells D0.toArray 25))
  have R2 := Lib.hid (Blk.new (w.alloc (.cells L.toArray 30)) 25 D0 (w.heap.size + 1) (by simp))
  have HONE0 := Lib.hid (show D0.toArray.all (·.oneCell') = true by rw [hD0]; exact row8_one _)
  have L656 := Lib.hid (show L.length = 656 by rw [hL]; exact tbc_len hT)
  have HIX := Lib.hid (fun k (hk : k < 8) w => run_index_tab hT hk w)
  rw [← hL] at HIX
  have HL := Lib.hid hL
  have HD0 := Lib.hid hD0
  have HT := Lib.hid hT
  have HPL := Lib.hid hpl
  have HRES := Lib.hid (show RE = oerr T p ∧ RI = oidx T p ∧ RK = okey T p from ⟨hRE, hRI, hRK⟩)
  have HV := Lib.hid hv
  have HA := Lib.hid ha
  have HK := Lib.hid hk
  rw [← hpl] at HV ⊢
  rw [← hL, ← hRK, ← hRI, ← hRE]
  clear w1 hv ha hk hL hRK hRI hRE hT hpl hD1 hD0
  by_cases hlong : 512 < pl
  · obtain ⟨rfl, rfl, hrk⟩ : RE = 5 ∧ RI = 0 ∧ row8 RK = D0 := by
      have h := o_long (T := T) (p := p) (by rw [← HPL.out]; exact hlong)
      have g := HRES.out
      exact ⟨g.1.trans h.1, g.2.1.trans h.2.1, by rw [g.2.2, h.2.2, ← HD0.out]⟩
    rw [hrk]
    have hlz : (512 : Int) < (pl : Int) := by omega
    clear HRES hrk
    go_enter Tryd.func19, Tryd.ntmps19
    go_wp2_with ((fail_if_success (with_reducible show bodyPost _ _ _ _ _ _)); first
      | (refine wpList_buildTo rfl 25 _ rfl (some 14) rfl D0.toArray (Eq.trans (b := Tryd.prog.built 25 []) (by kernel_rfl) hbk) ?_)
      | (refine wpList_store_blk rfl 25 (.tmp 4) (.tmp 14) rfl (w.heap.size + 1) 0 D0 rfl rfl 25 D0 R2.out (Nat.le_of_eq (Nat.zero_add _)) (by rw [hd0]; exact infoK2) HONE0.out ?_; intro w5 b5 g5; rw [splice_all _ _ rfl] at b5; have U5 := Lib.hid b5; have W5 := Lib.hid (W2.out.grown g5 W2.out.size (fun g hg => by have := Option.some.inj hg; omega)); clear b5 g5))
    exact bodyPost_ret (results_mid3 rfl _ _ (w.heap.size + 1) D0 _ rfl U5.out.range Tryd.underlying25 rfl (by rw [hd0]; exact infoK2)) rfl ⟨rfl, W5.out⟩
  · have hlz : ¬ (512 : Int) < (pl : Int) := by omega
    have HSH := Lib.hid (show p.length ≤ 512 by have := HPL.out; omega)
    go_enter Tryd.func19, Tryd.ntmps19
    go_upto_region 3 with fail
    obtain ⟨w2, hw2⟩ : ∃ x, x = (w.alloc (.cells L.toArray 30)).alloc (.cells D0.toArray 25) := ⟨_, rfl⟩
    rw [← hw2] at W2 T2 R2 ⊢
    clear hw2
    go_wp2_with (refine wpList_load_mid rfl 30 (.tmp 2) rfl w.heap.size 0 rfl L _ T2.out.range Tryd.underlying30 rfl (by rw [L656.out]; exact infoTb) ?_)
    go_loopw [16] (fun x wr => ∃ k : Nat, k ≤ 8 ∧ x = .int .i64 (k : Int) ∧ (∀ j, j < k → opensAt p (at_ T j) = false) ∧ Blk wr (w.heap.size + 1) 25 D0 ∧ Below w.heap.size w wr) (fun x _ => 8 - (intOf x).toNat)
    case atStart => exact ⟨0, by decide, rfl, fun j hj => absurd hj (Nat.not_lt_zero j), R2.out, W2.out⟩
    case round =>
      clear W2 T2 R2
      obtain ⟨k, hk8, rfl, hno, hr, hw⟩ := hrel
      have HNO := Lib.hid hno
      have RR := Lib.hid hr
      have WR := Lib.hid hw
      clear hno hr hw
      by_cases hlt : k < 8
      · have hix := HIX.out k hlt
        have HS := Lib.hid (HT.out.at_ hlt)
        obtain ⟨s, hse⟩ : ∃ s, s = at_ T k := ⟨_, rfl⟩
        rw [← hse] at hix HS
        have HSE := Lib.hid hse
        have HO := Lib.hid (fun W (hW : Below w.heap.size w W) => popenslot_any s HS.out p _ W HSH.out (HV.out.below hW) (HA.out.below hW) (HK.out.below hW))
        obtain ⟨SC, hSC⟩ : ∃ C, C = slc s := ⟨_, rfl⟩
        rw [← hSC] at hix HO
        have S82 := Lib.hid (show SC.length = 82 by rw [hSC]; exact slc_len HS.out)
        have SONE := Lib.hid (show SC.toArray.all (·.oneCell') = true by rw [hSC]; exact slc_all _)
        obtain ⟨M, hM⟩ : ∃ M, M = skey s p := ⟨_, rfl⟩
        obtain ⟨E, hE⟩ : ∃ E, E = serr s p := ⟨_, rfl⟩
        have M32 := Lib.hid (show (row8 M).length = 32 by rw [row8_len, hM]; exact (skey_bytes HS.out p).1)
        rw [← hM, ← hE] at HO
        have HME := Lib.hid (show M = skey s p ∧ E = serr s p from ⟨hM, hE⟩)
        have hklt : (k : Int) < 8 := by omega
        clear hse hSC hM hE
        cases ho : opensAt p s with
        | false =>
          obtain rfl : E = 30 := by rw [HME.out.2]; unfold serr; rw [ho]; rfl
          have NO2 := Lib.hid (fun j (hj : j < k + 1) => show opensAt p (at_ T j) = false by
            rcases Nat.lt_succ_iff_lt_or_eq.1 hj with h | rfl
            · exact HNO.out j h
            · rw [← HSE.out]; exact ho)
          clear HRES HME
          go_wp2_with ((fail_if_success (with_reducible show bodyPost _ _ _ _ _ _)); first
            | (refine wpList_store_blk rfl 28 (.tmp 8) (.tmp 19) rfl wr.heap.size 0 SC rfl rfl 28 D1 (Blk.new wr 28 D1 _ rfl) (by rw [S82.out, hd1]; exact Nat.le_refl _) (by rw [S82.out]; exact infoSl) SONE.out ?_; intro w3 b3 g3; rw [splice_all _ _ (by rw [S82.out, hd1])] at b3; have S3 := Lib.hid b3; have hb3 := alloc_turn (Below.refl _ _) g3; have W3 := Lib.hid (WR.out.on hb3); have R3 := Lib.hid (RR.out.below hb3 RR.out.lt); clear b3 g3 hb3)
            | (refine wpList_load_mid rfl 28 (.tmp 8) rfl wr.heap.size 0 rfl SC _ S3.out.range Tryd.underlying28 rfl (by rw [S82.out]; exact infoSl) ?_)
            | (go_at_call 36; (with_reducible refine (HO.out w3 W3.out).mono ?_); rintro e w4 ⟨rfl, b4⟩; have W4 := Lib.hid (W3.out.on b4); have R4 := Lib.hid (R3.out.below b4 R3.out.lt); clear b4)
            | (refine wpList_store_blk rfl 25 (.tmp 9) (.tmp 24) rfl w4.heap.size 0 (row8 M) rfl rfl 25 D0 (Blk.new w4 25 D0 _ rfl) (by rw [M32.out, hd0]; exact Nat.le_refl _) (by rw [M32.out]; exact infoK2) (row8_one _) ?_; intro w5 b5 g5; rw [splice_all _ _ (by rw [M32.out, hd0])] at b5; have K5 := Lib.hid b5; have hb5 := alloc_turn (Below.refl _ _) g5; have W5 := Lib.hid (W4.out.on hb5); have R5 := Lib.hid (R4.out.below hb5 R4.out.lt); clear b5 g5 hb5))
          exact ⟨⟨k + 1, by omega, by go_num, NO2.out, R5.out, W5.out⟩, by simp [intOf]; omega⟩
        | true =>
          obtain rfl : E = 0 := by rw [HME.out.2]; unfold serr; rw [ho]; rfl
          obtain ⟨rfl, rfl, rfl⟩ : RE = 0 ∧ RI = k ∧ RK = M := by
            have h := o_some HT.out HSH.out hlt (by rw [← HSE.out]; exact ho) HNO.out
            rw [← HSE.out] at h
            have g := HRES.out
            exact ⟨g.1.trans h.1, g.2.1.trans h.2.1, by rw [g.2.2, h.2.2, HME.out.1]; unfold skey; rw [ho]; rfl⟩
          clear HRES HME
          go_wp2_with ((fail_if_success (with_reducible show bodyPost _ _ _ _ _ _)); first
            | (refine wpList_store_blk rfl 28 (.tmp 8) (.tmp 19) rfl wr.heap.size 0 SC rfl rfl 28 D1 (Blk.new wr 28 D1 _ rfl) (by rw [S82.out, hd1]; exact Nat.le_refl _) (by rw [S82.out]; exact infoSl) SONE.out ?_; intro w3 b3 g3; rw [splice_all _ _ (by rw [S82.out, hd1])] at b3; have S3 := Lib.hid b3; have hb3 := alloc_turn (Below.refl _ _) g3; have W3 := Lib.hid (WR.out.on hb3); have R3 := Lib.hid (RR.out.below hb3 RR.out.lt); clear b3 g3 hb3)
            | (refine wpList_load_mid rfl 28 (.tmp 8) rfl wr.heap.size 0 rfl SC _ S3.out.range Tryd.underlying28 rfl (by rw [S82.out]; exact infoSl) ?_)
            | (go_at_call 36; (with_reducible refine (HO.out w3 W3.out).mono ?_); rintro e w4 ⟨rfl, b4⟩; have W4 := Lib.hid (W3.out.on b4); have R4 := Lib.hid (R3.out.below b4 R3.out.lt); clear b4)
            | (refine wpList_store_blk rfl 25 (.tmp 9) (.tmp 24) rfl w4.heap.size 0 (row8 RK) rfl rfl 25 D0 (Blk.new w4 25 D0 _ rfl) (by rw [M32.out, hd0]; exact Nat.le_refl _) (by rw [M32.out]; exact infoK2) (row8_one _) ?_; intro w5 b5 g5; rw [splice_all _ _ (by rw [M32.out, hd0])] at b5; have K5 := Lib.hid b5; have hb5 := alloc_turn (Below.refl _ _) g5; have W5 := Lib.hid (W4.out.on hb5); have R5 := Lib.hid (R4.out.below hb5 R4.out.lt); clear b5 g5 hb5)
            | (refine wpList_load_mid rfl 25 (.tmp 9) rfl w4.heap.size 0 rfl (row8 RK) _ K5.out.range Tryd.underlying25 rfl (by rw [M32.out]; exact infoK2) ?_)
            | (refine wpList_store_blk rfl 25 (.tmp 4) (.tmp 28) rfl (w.heap.size + 1) 0 (row8 RK) rfl rfl 25 D0 R5.out (by rw [M32.out, hd0]; exact Nat.le_refl _) (by rw [M32.out]; exact infoK2) (row8_one _) ?_; intro w6 b6 g6; rw [splice_all _ _ (by rw [M32.out, hd0])] at b6; have U6 := Lib.hid b6; have W6 := Lib.hid (W5.out.grown g6 W5.out.size (fun g hg => by have := Option.some.inj hg; omega)); clear b6 g6))
          exact bodyPost_ret (results_mid3 rfl _ _ (w.heap.size + 1) (row8 RK) _ rfl U6.out.range Tryd.underlying25 rfl (by rw [M32.out]; exact infoK2)) rfl ⟨rfl, W6.out⟩
      · obtain rfl : k = 8 := by omega
        obtain ⟨rfl, rfl, hrk⟩ : RE = 30 ∧ RI = 0 ∧ row8 RK = D0 := by
          have h := o_none HT.out HSH.out HNO.out
          have g := HRES.out
          exact ⟨g.1.trans h.1, g.2.1.trans h.2.1, by rw [g.2.2, h.2.2, ← HD0.out]⟩
        clear HRES
        go_wp2_with ((fail_if_success (with_reducible show bodyPost _ _ _ _ _ _)); first
          | (refine wpList_buildTo rfl 25 _ rfl (some 31) rfl D0.toArray (Eq.trans (b := Tryd.prog.built 25 []) (by kernel_rfl) hbk) ?_)
          | (refine wpList_store_blk rfl 25 (.tmp 4) (.tmp 31) rfl (w.heap.size + 1) 0 D0 rfl rfl 25 D0 RR.out (Nat.le_of_eq (Nat.zero_add _)) (by rw [hd0]; exact infoK2) HONE0.out ?_; intro w5 b5 g5; rw [splice_all _ _ rfl] at b5; have U5 := Lib.hid b5; have W5 := Lib.hid (WR.out.grown g5 WR.out.size (fun g hg => by have := Option.some.inj hg; omega)); clear b5 g5))
        exact bodyPost_ret (results_mid3 rfl _ _ (w.heap.size + 1) D0 _ rfl U5.out.range Tryd.underlying25 rfl (by rw [hd0]; exact infoK2)) rfl ⟨by rw [hrk]; rfl, W5.out⟩
set_option maxRecDepth 100000 in
set_option maxHeartbeats 1000000 in
theorem prefused_any (T : List Slot) (hT : Tok T) (p : List Nat) (t : Int) (v : Value) (w : World) (hv : Rd w v p) (ha : TabX w) (hk : TabP w) :
    Calls Tryd.prog 43 #[.agg (tbc T).toArray, v, .int .i64 t] w fun e w' => e = .returned (.int .i64 (comes T p t)) ∧ Below w.heap.size w w' := by
  obtain ⟨va, vc, rfl, _⟩ := hv.shape
  obtain ⟨pl, hpl⟩ : ∃ n, n = p.length := ⟨_, rfl⟩
  obtain ⟨L, hL⟩ : ∃ L, L = tbc T := ⟨_, rfl⟩
  obtain ⟨RK, hRK⟩ : ∃ x, x = okey T p := ⟨_, rfl⟩
  obtain ⟨RI, hRI⟩ : ∃ x, x = oidx T p := ⟨_, rfl⟩
  obtain ⟨RE, hRE⟩ : ∃ x, x = oerr T p := ⟨_, rfl⟩
  obtain ⟨RC, hRC⟩ : ∃ x, x = comes T p t := ⟨_, rfl⟩
  obtain ⟨D0, hD0⟩ : ∃ D, D = row8 (List.replicate 32 0) := ⟨_, rfl⟩
  have hz : ∀ w, (zeroValue 25).run Tryd.prog w = .ok (.agg D0.toArray) w := by rw [hD0]; exact zeroK2
  have hd0 : D0.length = 32 := by rw [hD0, row8_len, List.length_replicate]
  have K32 := Lib.hid (show (row8 RK).length = 32 by rw [row8_len, hRK]; exact (okey_bytes hT p).1)
  have L656 := Lib.hid (show L.length = 656 by rw [hL]; exact tbc_len hT)
  have W1 := Lib.hid ((Below.refl w.heap.size w).alloc (Nat.le_refl _) (.cells L.toArray 30))
  have T1 := Lib.hid (Blk.new w 30 L _ rfl)
  have HO := Lib.hid (sopen_any T hT p _ _ (hv.alloc (.cells L.toArray 30)) (ha.below W1.out) (hk.below W1.out))
  rw [← hL, ← hRK, ← hRI, ← hRE, ← hpl] at HO
  rw [← hL, ← hpl, ← hRC]
  have hRC2 : RC = if 512 < pl then 5 else if t < 1 ∨ 4096 < t then 2 else if RE = 0 then 23 else 0 := by rw [hRC, hRE, hpl]; rfl
  have HEC := Lib.hid (show RE = 0 ∨ RE = 5 ∨ RE = 30 by rw [hRE]; exact oerr_cases T p)
  have HTM := Lib.hid (fun W => pturns_any t W)
  clear hv ha hk hT hpl hL hRK hRI hRE hRC hD0
  by_cases hlong : 512 < pl
  · rw [if_pos hlong] at hRC2
    have hlz : (512 : Int) < (pl : Int) := by omega
    subst hRC2
    go_enter Tryd.func43, Tryd.ntmps43
    go_wp2_with fail
    go_ret
    exact ⟨rfl, W1.out⟩
  · rw [if_neg hlong] at hRC2
    have hlz : ¬ (512 : Int) < (pl : Int) := by omega
    by_cases h1 : t < 1 ∨ 4096 < t
    · rw [if_pos h1] at hRC2
      subst hRC2
      rw [decide_eq_false (show ¬ (1 ≤ t ∧ t ≤ 4096) by omega)] at HTM
      go_enter Tryd.func43, Tryd.ntmps43
      go_wp2_with ((fail_if_success (with_reducible show bodyPost _ _ _ _ _ _)); first
        | (go_at_call 55; (with_reducible refine (HTM.out _).mono ?_); rintro e wq ⟨rfl, eq⟩; subst eq)
        | fail)
      go_ret
      exact ⟨rfl, W1.out⟩
    · rw [if_neg h1] at hRC2
      rw [decide_eq_true (show 1 ≤ t ∧ t ≤ 4096 by omega)] at HTM
      clear h1
      rcases HEC.out with rfl | rfl | rfl
      · rw [if_pos rfl] at hRC2
        subst hRC2
        go_enter Tryd.func43, Tryd.ntmps43
        go_wp2_with ((fail_if_success (with_reducible show bodyPost _ _ _ _ _ _)); first
        | (go_at_call 55; (with_reducible refine (HTM.out _).mono ?_); rintro e wq ⟨rfl, eq⟩; subst eq)
        | (refine wpList_load_mid rfl 30 (.tmp 3) rfl w.heap.size 0 rfl L _ (show _ from T1.out.range) Tryd.underlying30 rfl (by rw [L656.out]; exact infoTb) ?_)
        | (go_at_call 19; (with_reducible refine (HO.out).mono ?_); rintro e w2 ⟨rfl, b⟩; have W2 := Lib.hid (W1.out.on b); clear b)
        | (refine wpList_store_blk rfl 25 (.tmp 7) (.tmp 22) rfl w2.heap.size 0 (row8 RK) rfl rfl 25 D0 (Blk.new w2 25 D0 _ rfl) (by rw [K32.out, hd0]; exact Nat.le_refl _) (by rw [K32.out]; exact infoK2) (row8_one _) ?_; intro w5 b5 g5; have W5 := Lib.hid (W2.out.on (alloc_turn (Below.refl _ _) g5)); clear b5 g5))
        go_ret
        exact ⟨rfl, W5.out⟩
      · rw [if_neg (by decide)] at hRC2
        subst hRC2
        go_enter Tryd.func43, Tryd.ntmps43
        go_wp2_with ((fail_if_success (with_reducible show bodyPost _ _ _ _ _ _)); first
        | (go_at_call 55; (with_reducible refine (HTM.out _).mono ?_); rintro e wq ⟨rfl, eq⟩; subst eq)
        | (refine wpList_load_mid rfl 30 (.tmp 3) rfl w.heap.size 0 rfl L _ (show _ from T1.out.range) Tryd.underlying30 rfl (by rw [L656.out]; exact infoTb) ?_)
        | (go_at_call 19; (with_reducible refine (HO.out).mono ?_); rintro e w2 ⟨rfl, b⟩; have W2 := Lib.hid (W1.out.on b); clear b)
        | (refine wpList_store_blk rfl 25 (.tmp 7) (.tmp 22) rfl w2.heap.size 0 (row8 RK) rfl rfl 25 D0 (Blk.new w2 25 D0 _ rfl) (by rw [K32.out, hd0]; exact Nat.le_refl _) (by rw [K32.out]; exact infoK2) (row8_one _) ?_; intro w5 b5 g5; have W5 := Lib.hid (W2.out.on (alloc_turn (Below.refl _ _) g5)); clear b5 g5))
        go_ret
        exact ⟨rfl, W5.out⟩
      · rw [if_neg (by decide)] at hRC2
        subst hRC2
        go_enter Tryd.func43, Tryd.ntmps43
        go_wp2_with ((fail_if_success (with_reducible show bodyPost _ _ _ _ _ _)); first
        | (go_at_call 55; (with_reducible refine (HTM.out _).mono ?_); rintro e wq ⟨rfl, eq⟩; subst eq)
        | (refine wpList_load_mid rfl 30 (.tmp 3) rfl w.heap.size 0 rfl L _ (show _ from T1.out.range) Tryd.underlying30 rfl (by rw [L656.out]; exact infoTb) ?_)
        | (go_at_call 19; (with_reducible refine (HO.out).mono ?_); rintro e w2 ⟨rfl, b⟩; have W2 := Lib.hid (W1.out.on b); clear b)
        | (refine wpList_store_blk rfl 25 (.tmp 7) (.tmp 22) rfl w2.heap.size 0 (row8 RK) rfl rfl 25 D0 (Blk.new w2 25 D0 _ rfl) (by rw [K32.out, hd0]; exact Nat.le_refl _) (by rw [K32.out]; exact infoK2) (row8_one _) ?_; intro w5 b5 g5; have W5 := Lib.hid (W2.out.on (alloc_turn (Below.refl _ _) g5)); clear b5 g5))
        go_ret
        exact ⟨rfl, W5.out⟩
set_option maxRecDepth 100000 in
set_option maxHeartbeats 2000000 in
theorem sadd_any (T : List Slot) (hT : Tok T) (p salt m : List Nat) (t : Int) (v : Value) (w : World) (hs : Bytes 16 salt) (hm : Bytes 32 m) (hv : Rd w v p) (ha : TabX w) (hk : TabP w) :
    Calls Tryd.prog 22 #[.agg (tbc T).toArray, v, .agg (row8 salt).toArray, .int .i64 t, .agg (row8 m).toArray] w fun e w' => e = .returned (.tuple #[.agg (tbc (add T p salt t m)).toArray, .int .i64 (aerr T p t)]) ∧ Below w.heap.size w w' := by
  obtain ⟨va, vc, rfl, _⟩ := hv.shape
  obtain ⟨pl, hpl⟩ : ∃ n, n = p.length := ⟨_, rfl⟩
  obtain ⟨L, hL⟩ : ∃ L, L = tbc T := ⟨_, rfl⟩
  obtain ⟨RC, hRC⟩ : ∃ x, x = comes T p t := ⟨_, rfl⟩
  obtain ⟨RE, hRE⟩ : ∃ x, x = aerr T p t := ⟨_, rfl⟩
  obtain ⟨RT, hRT⟩ : ∃ x, x = tbc (add T p salt t m) := ⟨_, rfl⟩
  obtain ⟨Z0, hZ0⟩ : ∃ D, D = tbc zero := ⟨_, rfl⟩
  have hz : ∀ w, (zeroValue 30).run Tryd.prog w = .ok (.agg Z0.toArray) w := by rw [hZ0]; exact zeroTb
  have hz656 : Z0.length = 656 := by rw [hZ0]; exact tbc_len zero_ok
  have hbz : Tryd.prog.built 30 [] = some Z0.toArray := by rw [hZ0]; exact builtTb
  have ZONE := Lib.hid (show Z0.toArray.all (·.oneCell') = true by rw [hZ0]; exact tbc_all _)
  have L656 := Lib.hid (show L.length = 656 by rw [hL]; exact tbc_len hT)
  have A16 := Lib.hid (show (row8 salt).length = 16 by rw [row8_len]; exact hs.1)
  have M32 := Lib.hid (show (row8 m).length = 32 by rw [row8_len]; exact hm.1)
  have x1 := (Below.refl w.heap.size w).alloc (Nat.le_refl _) (.cells L.toArray 30)
  have x2 := x1.alloc x1.size (.cells (row8 salt).toArray 23)
  have x3 := x2.alloc x2.size (.cells (row8 m).toArray 25)
  have x4 := x3.alloc x3.size (.cells Z0.toArray 30)
  obtain ⟨w4, hw4⟩ : ∃ x, x = (((w.alloc (.cells L.toArray 30)).alloc (.cells (row8 salt).toArray 23)).alloc (.cells (row8 m).toArray 25)).alloc (.cells Z0.toArray 30) := ⟨_, rfl⟩
  have W4 := Lib.hid (show Below w.heap.size w w4 by rw [hw4]; exact x4)
  have T4 := Lib.hid (show Blk w4 w.heap.size 30 L by rw [hw4]; exact (((Blk.new w _ L _ rfl).alloc _).alloc _).alloc _)
  have A4 := Lib.hid (show Blk w4 (w.heap.size + 1) 23 (row8 salt) by rw [hw4]; exact ((Blk.new (w.alloc (.cells L.toArray 30)) 23 (row8 salt) (w.heap.size + 1) (by simp)).alloc _).alloc _)
  have K4 := Lib.hid (show Blk w4 (w.heap.size + 1 + 1) 25 (row8 m) by rw [hw4]; exact (Blk.new ((w.alloc (.cells L.toArray 30)).alloc (.cells (row8 salt).toArray 23)) 25 (row8 m) (w.heap.size + 1 + 1) (by simp)).alloc _)
  have R4 := Lib.hid (show Blk w4 (w.heap.size + 1 + 1 + 1) 30 Z0 by rw [hw4]; exact Blk.new (((w.alloc (.cells L.toArray 30)).alloc (.cells (row8 salt).toArray 23)).alloc (.cells (row8 m).toArray 25)) 30 Z0 (w.heap.size + 1 + 1 + 1) (by simp))
  have HW4 := Lib.hid hw4
  have HF := Lib.hid (prefused_any T hT p t _ _ (hv.below W4.out) (ha.below W4.out) (hk.below W4.out))
  rw [← hL, ← hRC] at HF
  have HV := Lib.hid hv
  have HA := Lib.hid ha
  have HK := Lib.hid hk
  have HS := Lib.hid hs
  have HM := Lib.hid hm
  have HT := Lib.hid hT
  have HLE := Lib.hid hL
  have HRT := Lib.hid hRT
  have HRE := Lib.hid hRE
  have HRC := Lib.hid hRC
  have HZE := Lib.hid hZ0
  obtain ⟨D1, hD1⟩ : ∃ D, D = slc none_ := ⟨_, rfl⟩
  have hz1 : ∀ w, (zeroValue 28).run Tryd.prog w = .ok (.agg D1.toArray) w := by rw [hD1]; exact zeroSl
  have hd1 : D1.length = 82 := by rw [hD1]; exact slc_len none_ok
  have HIX := Lib.hid (fun k (hk : k < 8) w => run_index_tab hT hk w)
  rw [← hL] at HIX
  clear hD1
  rw [← hpl] at HF HV ⊢
  rw [← hL, ← hRT, ← hRE]
  clear x1 x2 x3 x4 hw4 hv ha hk hs hm hT hL hRT hRE hRC hZ0 hpl
  by_cases hc : RC = 0
  · subst hc
    obtain ⟨hp5, ht1, ht2⟩ := comes_none HRC.out.symm
    obtain ⟨tn, rfl⟩ : ∃ n : Nat, t = (n : Int) := ⟨t.toNat, by omega⟩
    have htn : 1 ≤ tn ∧ tn ≤ 4096 := by omega
    have HSE := Lib.hid (fun W (hW : Below w.heap.size w W) => psealed_any p salt m tn (.slice va pl vc) W hp5 HS.out htn.1 htn.2 HM.out (HV.out.below hW) (HA.out.below hW) (HK.out.below hW))
    have HMADE := Lib.hid (made_ok p (t := tn) (by omega) HS.out HM.out)
    obtain ⟨F, hF⟩ : ∃ F, F = slc (made p salt tn m) := ⟨_, rfl⟩
    have F82 := Lib.hid (show F.length = 82 by rw [hF]; exact slc_len HMADE.out)
    have FONE := Lib.hid (show F.toArray.all (·.oneCell') = true by rw [hF]; exact slc_all _)
    have HFE := Lib.hid hF
    rw [← hF] at HSE
    clear hp5 ht1 ht2 htn hF
    go_enter Tryd.func22, Tryd.ntmps22
    go_upto_region 1 with fail
    rw [← HW4.out]
    clear HW4
    go_wp2_with ((fail_if_success (with_reducible show bodyPost _ _ _ _ _ _)); first
      | (refine wpList_load_mid rfl 30 (.tmp 5) rfl w.heap.size 0 rfl L _ T4.out.range Tryd.underlying30 rfl (by rw [L656.out]; exact infoTb) ?_)
      | (go_at_call 43; (with_reducible refine HF.out.mono ?_); rintro e w5 ⟨rfl, b5⟩; have W5 := Lib.hid (W4.out.on b5); have T5 := Lib.hid (T4.out.below b5 T4.out.lt); have A5 := Lib.hid (A4.out.below b5 A4.out.lt); have K5 := Lib.hid (K4.out.below b5 K4.out.lt); have R5 := Lib.hid (R4.out.below b5 R4.out.lt); clear b5)
      | (refine wpList_load_mid rfl 30 (.tmp 5) rfl w.heap.size 0 rfl L _ T5.out.range Tryd.underlying30 rfl (by rw [L656.out]; exact infoTb) ?_))
    go_loopw [24] (fun x wr => ∃ k : Nat, k ≤ 8 ∧ x = .int .i64 (k : Int) ∧ (∀ j, j < k → (at_ T j).used = true) ∧ Blk wr w.heap.size 30 L ∧ Blk wr (w.heap.size + 1) 23 (row8 salt) ∧ Blk wr (w.heap.size + 1 + 1) 25 (row8 m) ∧ Blk wr (w.heap.size + 1 + 1 + 1) 30 Z0 ∧ Below w.heap.size w wr) (fun x _ => 8 - (intOf x).toNat)
    case atStart => exact ⟨0, by decide, rfl, fun j hj => absurd hj (Nat.not_lt_zero j), T5.out, A5.out, K5.out, R5.out, W5.out⟩
    case round =>
      clear T5 A5 K5 R5 W5 T4 A4 K4 R4 W4
      obtain ⟨k, hk8, rfl, hno, y1, y2, y3, y4, y5⟩ := hrel
      have HNO := Lib.hid hno
      have TR := Lib.hid y1
      have AR := Lib.hid y2
      have KR := Lib.hid y3
      have RR := Lib.hid y4
      have WR := Lib.hid y5
      clear hno y1 y2 y3 y4 y5
      by_cases hlt : k < 8
      · have hix := HIX.out k hlt
        have HSK := Lib.hid (HT.out.at_ hlt)
        have HC1 := Lib.hid (fun W b (h : Blk W b 28 (slc (at_ T k))) => (show W.cell? ⟨b, 0, none⟩ = some (.bool (at_ T k).used) from h.cell 0 _ rfl))
        have S820 := slc_len HSK.out
        have SONE0 := slc_all (at_ T k)
        obtain ⟨SC, hSC⟩ : ∃ C, C = slc (at_ T k) := ⟨_, rfl⟩
        rw [← hSC] at hix HC1 S820 SONE0
        have S82 := Lib.hid S820
        have SONE := Lib.hid SONE0
        clear hSC S820 SONE0
        have hklt : (k : Int) < 8 := by omega
        cases hu : (at_ T k).used with
        | true =>
          have HC0 := HC1
          rw [hu] at HC0
          have NO2 := Lib.hid (fun j (hj : j < k + 1) => show (at_ T j).used = true by
            rcases Nat.lt_succ_iff_lt_or_eq.1 hj with h | rfl
            · exact HNO.out j h
            · exact hu)
          go_wp2_with (refine wpList_store_blk rfl 28 (.tmp 14) (.tmp 27) rfl wr.heap.size 0 SC rfl rfl 28 D1 (Blk.new wr 28 D1 _ rfl) (by rw [S82.out, hd1]; exact Nat.le_refl _) (by rw [S82.out]; exact infoSl) SONE.out ?_; intro wn b3 g3; rw [splice_all _ _ (by rw [S82.out, hd1])] at b3; have c0 := HC0.out _ _ b3; have hb3 := alloc_turn (Below.refl _ _) g3; have WN := Lib.hid (WR.out.on hb3); have TN := Lib.hid (TR.out.below hb3 TR.out.lt); have AN := Lib.hid (AR.out.below hb3 AR.out.lt); have KN := Lib.hid (KR.out.below hb3 KR.out.lt); have RN := Lib.hid (RR.out.below hb3 RR.out.lt); clear b3 g3 hb3)
          exact ⟨⟨k + 1, by omega, by go_num, NO2.out, TN.out, AN.out, KN.out, RN.out, WN.out⟩, by simp [intOf]; omega⟩
        | false =>
          have HC0 := HC1
          rw [hu] at HC0
          have hfree := free_some (T := T) (by rw [HT.out.len]; exact hlt) hu HNO.out
          have hRE0 : RE = 0 := by rw [HRE.out]; unfold aerr; rw [if_pos HRC.out.symm, hfree]; rfl
          have hadd : add T p salt (tn : Int) m = T.set k (made p salt tn m) := by
            unfold add
            rw [if_pos (by rw [← HRE.out]; exact hRE0), hfree]; rfl
          obtain ⟨N, hN⟩ : ∃ N, N = tbc (T.set k (made p salt tn m)) := ⟨_, rfl⟩
          have HSPL := Lib.hid (show splice L (k * 82) F = N by rw [HLE.out, HFE.out, hN]; exact tbc_set HT.out.ok k HMADE.out (by rw [HT.out.len]; exact hlt))
          have N656 := Lib.hid (show N.length = 656 by rw [hN]; exact tbc_len (HT.out.set k HMADE.out))
          have NONE := Lib.hid (show N.toArray.all (·.oneCell') = true by rw [hN]; exact tbc_all _)
          have RES : (Ending.returned (.tuple #[.agg N.toArray, .int .i64 0]) : Ending) = .returned (.tuple #[.agg RT.toArray, .int .i64 RE]) := by rw [HRT.out, hadd, hN, hRE0]
          clear hfree hRE0 hadd hN
          go_wp2_with ((fail_if_success (with_reducible show bodyPost _ _ _ _ _ _)); first
          | (refine wpList_store_blk rfl 28 (.tmp 14) (.tmp 27) rfl wr.heap.size 0 SC rfl rfl 28 D1 (Blk.new wr 28 D1 _ rfl) (by rw [S82.out, hd1]; exact Nat.le_refl _) (by rw [S82.out]; exact infoSl) SONE.out ?_; intro wn b3 g3; rw [splice_all _ _ (by rw [S82.out, hd1])] at b3; have c0 := HC0.out _ _ b3; have hb3 := alloc_turn (Below.refl _ _) g3; have WN := Lib.hid (WR.out.on hb3); have TN := Lib.hid (TR.out.below hb3 TR.out.lt); have AN := Lib.hid (AR.out.below hb3 AR.out.lt); have KN := Lib.hid (KR.out.below hb3 KR.out.lt); have RN := Lib.hid (RR.out.below hb3 RR.out.lt); clear b3 g3 hb3)
          | (refine wpList_load_mid rfl 23 (.tmp 7) rfl (w.heap.size + 1) 0 rfl (row8 salt) _ AN.out.range Tryd.underlying23 rfl (by rw [A16.out]; exact info162) ?_)
          | (refine wpList_load_mid rfl 25 (.tmp 9) rfl (w.heap.size + 1 + 1) 0 rfl (row8 m) _ KN.out.range Tryd.underlying25 rfl (by rw [M32.out]; exact infoK2) ?_)
          | (go_at_call 44; (with_reducible refine (HSE.out wn WN.out).mono ?_); rintro e w6 ⟨rfl, b6⟩; have W6 := Lib.hid (WN.out.on b6); have T6 := Lib.hid (TN.out.below b6 TN.out.lt); have R6 := Lib.hid (RN.out.below b6 RN.out.lt); clear b6)
          | (refine wpList_store_blk rfl 28 (.tmp 37) (.tmp 36) rfl w.heap.size (k * 82) F rfl rfl 30 L T6.out (by rw [F82.out, L656.out]; omega) (by rw [F82.out]; exact infoSl) FONE.out ?_; intro w7 b7 g7; rw [HSPL.out] at b7; have T7 := Lib.hid b7; have W7 := Lib.hid (W6.out.grown g7 W6.out.size (fun g hg => by have := Option.some.inj hg; omega)); have R7 := Lib.hid (R6.out.grown g7 (fun e => by have := Option.some.inj e; omega)); clear b7 g7)
          | (refine wpList_load_mid rfl 30 (.tmp 5) rfl w.heap.size 0 rfl N _ T7.out.range Tryd.underlying30 rfl (by rw [N656.out]; exact infoTb) ?_)
          | (refine wpList_store_blk rfl 30 (.tmp 10) (.tmp 38) rfl (w.heap.size + 1 + 1 + 1) 0 N rfl rfl 30 Z0 R7.out (by rw [N656.out, hz656]; exact Nat.le_refl _) (by rw [N656.out]; exact infoTb) NONE.out ?_; intro w8 b8 g8; rw [splice_all _ _ (by rw [N656.out, hz656])] at b8; have U8 := Lib.hid b8; have W8 := Lib.hid (W7.out.grown g8 W7.out.size (fun g hg => by have := Option.some.inj hg; omega)); clear b8 g8))
          exact bodyPost_ret (results_mid2 rfl _ _ (w.heap.size + 1 + 1 + 1) N _ rfl U8.out.range Tryd.underlying30 rfl (by rw [N656.out]; exact infoTb)) rfl ⟨Eq.trans (b := Ending.returned (.tuple #[.agg N.toArray, .int .i64 0])) rfl RES, W8.out⟩
      · obtain rfl : k = 8 := by omega
        have hfree := free_none (T := T) fun j hj => HNO.out j (by rw [HT.out.len] at hj; exact hj)
        have hRE0 : RE = 32 := by rw [HRE.out]; unfold aerr; rw [if_pos HRC.out.symm, hfree]; rfl
        have hadd : add T p salt (tn : Int) m = zero := by
          unfold add
          rw [if_neg (by rw [← HRE.out, hRE0]; decide)]
        have RES : (Ending.returned (.tuple #[.agg Z0.toArray, .int .i64 32]) : Ending) = .returned (.tuple #[.agg RT.toArray, .int .i64 RE]) := by rw [HRT.out, hadd, ← HZE.out, hRE0]
        clear hfree hRE0 hadd
        go_wp2_with ((fail_if_success (with_reducible show bodyPost _ _ _ _ _ _)); first
        | (refine wpList_buildTo rfl 30 _ rfl (some 40) rfl Z0.toArray (Eq.trans (b := Tryd.prog.built 30 []) (by kernel_rfl) hbz) ?_)
        | (refine wpList_store_blk rfl 30 (.tmp 10) (.tmp 40) rfl (w.heap.size + 1 + 1 + 1) 0 Z0 rfl rfl 30 Z0 RR.out (Nat.le_of_eq (Nat.zero_add _)) (by rw [hz656]; exact infoTb) ZONE.out ?_; intro w6 b6 g6; rw [splice_all _ _ rfl] at b6; have U6 := Lib.hid b6; have W6 := Lib.hid (WR.out.grown g6 WR.out.size (fun g hg => by have := Option.some.inj hg; omega)); clear b6 g6))
        exact bodyPost_ret (results_mid2 rfl _ _ (w.heap.size + 1 + 1 + 1) Z0 _ rfl U6.out.range Tryd.underlying30 rfl (by rw [hz656]; exact infoTb)) rfl ⟨Eq.trans (b := Ending.returned (.tuple #[.agg Z0.toArray, .int .i64 32])) rfl RES, W6.out⟩
  · have hRE0 : RE = RC := by rw [HRE.out]; unfold aerr; rw [if_neg (by rw [← HRC.out]; exact hc), HRC.out]
    have hadd : add T p salt t m = zero := by
      unfold add
      rw [if_neg (by rw [← HRE.out, hRE0]; exact hc)]
    have RES : (Ending.returned (.tuple #[.agg Z0.toArray, .int .i64 RC]) : Ending) = .returned (.tuple #[.agg RT.toArray, .int .i64 RE]) := by rw [HRT.out, hadd, ← HZE.out, hRE0]
    clear hRE0 hadd
    go_enter Tryd.func22, Tryd.ntmps22
    go_upto_region 1 with fail
    rw [← HW4.out]
    clear HW4
    go_wp2_with ((fail_if_success (with_reducible show bodyPost _ _ _ _ _ _)); first
      | (refine wpList_load_mid rfl 30 (.tmp 5) rfl w.heap.size 0 rfl L _ T4.out.range Tryd.underlying30 rfl (by rw [L656.out]; exact infoTb) ?_)
      | (go_at_call 43; (with_reducible refine HF.out.mono ?_); rintro e w5 ⟨rfl, b5⟩; have W5 := Lib.hid (W4.out.on b5); have T5 := Lib.hid (T4.out.below b5 T4.out.lt); have A5 := Lib.hid (A4.out.below b5 A4.out.lt); have K5 := Lib.hid (K4.out.below b5 K4.out.lt); have R5 := Lib.hid (R4.out.below b5 R4.out.lt); clear b5)
      | (refine wpList_buildTo rfl 30 _ rfl (some 21) rfl Z0.toArray (Eq.trans (b := Tryd.prog.built 30 []) (by kernel_rfl) hbz) ?_)
      | (refine wpList_store_blk rfl 30 (.tmp 10) (.tmp 21) rfl (w.heap.size + 1 + 1 + 1) 0 Z0 rfl rfl 30 Z0 R5.out (Nat.le_of_eq (Nat.zero_add _)) (by rw [hz656]; exact infoTb) ZONE.out ?_; intro w6 b6 g6; rw [splice_all _ _ rfl] at b6; have U6 := Lib.hid b6; have W6 := Lib.hid (W5.out.grown g6 W5.out.size (fun g hg => by have := Option.some.inj hg; omega)); clear b6 g6))
    exact bodyPost_ret (results_mid2 rfl _ _ (w.heap.size + 1 + 1 + 1) Z0 _ rfl U6.out.range Tryd.underlying30 rfl (by rw [hz656]; exact infoTb)) rfl ⟨Eq.trans (b := Ending.returned (.tuple #[.agg Z0.toArray, .int .i64 RC])) rfl RES, W6.out⟩
set_option maxRecDepth 100000 in
set_option maxHeartbeats 2000000 in
theorem sremove_any (T : List Slot) (hT : Tok T) (p : List Nat) (v : Value) (w : World) (hv : Rd w v p) (ha : TabX w) (hk : TabP w) :
    Calls Tryd.prog 25 #[.agg (tbc T).toArray, v] w fun e w' => e = .returned (.tuple #[.agg (tbc (remove T p)).toArray, .int .i64 (rerr T p)]) ∧ Below w.heap.size w w' := by
  obtain ⟨va, vc, rfl, _⟩ := hv.shape
  obtain ⟨pl, hpl⟩ : ∃ n, n = p.length := ⟨_, rfl⟩
  obtain ⟨L, hL⟩ : ∃ L, L = tbc T := ⟨_, rfl⟩
  obtain ⟨RK, hRK⟩ : ∃ x, x = okey T p := ⟨_, rfl⟩
  obtain ⟨RI, hRI⟩ : ∃ x, x = oidx T p := ⟨_, rfl⟩
  obtain ⟨RO, hRO⟩ : ∃ x, x = oerr T p := ⟨_, rfl⟩
  obtain ⟨RE, hRE⟩ : ∃ x, x = rerr T p := ⟨_, rfl⟩
  obtain ⟨RT, hRT⟩ : ∃ x, x = tbc (remove T p) := ⟨_, rfl⟩
  obtain ⟨RU, hRU⟩ : ∃ x, x = used T := ⟨_, rfl⟩
  obtain ⟨Z0, hZ0⟩ : ∃ D, D = tbc zero := ⟨_, rfl⟩
  obtain ⟨D0, hD0⟩ : ∃ D, D = row8 (List.replicate 32 0) := ⟨_, rfl⟩
  obtain ⟨D1, hD1⟩ : ∃ D, D = slc none_ := ⟨_, rfl⟩
  have hz : ∀ w, (zeroValue 30).run Tryd.prog w = .ok (.agg Z0.toArray) w := by rw [hZ0]; exact zeroTb
  have hzk : ∀ w, (zeroValue 25).run Tryd.prog w = .ok (.agg D0.toArray) w := by rw [hD0]; exact zeroK2
  have hd0 : D0.length = 32 := by rw [hD0, row8_len, List.length_replicate]
  have hd1 : D1.length = 82 := by rw [hD1]; exact slc_len none_ok
  have hz656 : Z0.length = 656 := by rw [hZ0]; exact tbc_len zero_ok
  have hbz : Tryd.prog.built 30 [] = some Z0.toArray := by rw [hZ0]; exact builtTb
  have hbs : Tryd.prog.built 28 [] = some D1.toArray := by rw [hD1]; exact builtSl
  have ZONE := Lib.hid (show Z0.toArray.all (·.oneCell') = true by rw [hZ0]; exact tbc_all _)
  have DONE := Lib.hid (show D1.toArray.all (·.oneCell') = true by rw [hD1]; exact slc_all _)
  have L656 := Lib.hid (show L.length = 656 by rw [hL]; exact tbc_len hT)
  have K32 := Lib.hid (show (row8 RK).length = 32 by rw [row8_len, hRK]; exact (okey_bytes hT p).1)
  have hri : RI < 8 := by rw [hRI]; exact oidx_lt hT p
  have hru : RU ≤ 8 := by rw [hRU, ← hT.len]; exact used_le T
  have x1 := (Below.refl w.heap.size w).alloc (Nat.le_refl _) (.cells L.toArray 30)
  have x2 := x1.alloc x1.size (.cells Z0.toArray 30)
  obtain ⟨w2, hw2⟩ : ∃ x, x = (w.alloc (.cells L.toArray 30)).alloc (.cells Z0.toArray 30) := ⟨_, rfl⟩
  have W2 := Lib.hid (show Below w.heap.size w w2 by rw [hw2]; exact x2)
  have T2 := Lib.hid (show Blk w2 w.heap.size 30 L by rw [hw2]; exact (Blk.new w _ L _ rfl).alloc _)
  have R2 := Lib.hid (show Blk w2 (w.heap.size + 1) 30 Z0 by rw [hw2]; exact Blk.new (w.alloc (.cells L.toArray 30)) 30 Z0 (w.heap.size + 1) (by simp))
  have HW2 := Lib.hid hw2
  have HO := Lib.hid (sopen_any T hT p _ _ (hv.below W2.out) (ha.below W2.out) (hk.below W2.out))
  rw [← hL, ← hRK, ← hRI, ← hRO, ← hpl] at HO
  have HU := Lib.hid (fun W => sused_any T hT W)
  rw [← hL, ← hRU] at HU
  have HT := Lib.hid hT
  have HLE := Lib.hid hL
  have HRT := Lib.hid hRT
  have HRE := Lib.hid hRE
  have HRO := Lib.hid hRO
  have HRI := Lib.hid hRI
  have HRU := Lib.hid hRU
  have HZE := Lib.hid hZ0
  have HDE := Lib.hid hD1
  rw [← hL, ← hRT, ← hRE, ← hpl]
  clear x1 x2 hw2 hv ha hk hT hL hRT hRE hRO hRI hRU hRK hZ0 hD0 hD1 hpl
  by_cases hc : RO = 0
  · subst hc
    by_cases hu : RU = 1
    · subst hu
      have hRE0 : RE = 31 := by rw [HRE.out]; unfold rerr; rw [if_pos HRO.out.symm, if_pos HRU.out.symm]
      have hadd : remove T p = zero := by unfold remove; rw [if_neg (by rw [← HRE.out, hRE0]; decide)]
      have RES : (Ending.returned (.tuple #[.agg Z0.toArray, .int .i64 31]) : Ending) = .returned (.tuple #[.agg RT.toArray, .int .i64 RE]) := by rw [HRT.out, hadd, ← HZE.out, hRE0]
      clear hRE0 hadd
      go_enter Tryd.func25, Tryd.ntmps25
      go_upto_region 1 with fail
      rw [← HW2.out]
      clear HW2
      go_wp2_with ((fail_if_success (with_reducible show bodyPost _ _ _ _ _ _)); first
        | (go_at_call 19; (with_reducible refine HO.out.mono ?_); rintro e w3 ⟨rfl, b3⟩; have W3 := Lib.hid (W2.out.on b3); have T3 := Lib.hid (T2.out.below b3 T2.out.lt); have R3 := Lib.hid (R2.out.below b3 R2.out.lt); clear b3)
        | (refine wpList_store_blk rfl 25 (.tmp 6) (.tmp 13) rfl w3.heap.size 0 (row8 RK) rfl rfl 25 D0 (Blk.new w3 25 D0 _ rfl) (by rw [K32.out, hd0]; exact Nat.le_refl _) (by rw [K32.out]; exact infoK2) (row8_one _) ?_; intro w4 b4 g4; have hb4 := alloc_turn (Below.refl _ _) g4; have W4 := Lib.hid (W3.out.on hb4); have T4 := Lib.hid (T3.out.below hb4 T3.out.lt); have R4 := Lib.hid (R3.out.below hb4 R3.out.lt); clear b4 g4 hb4)
        | (go_at_call 13; (with_reducible refine (HU.out w4).mono ?_); rintro e w5 ⟨rfl, b5⟩; have W5 := Lib.hid (W4.out.on b5); have T5 := Lib.hid (T4.out.below b5 T4.out.lt); have R5 := Lib.hid (R4.out.below b5 R4.out.lt); clear b5)
        | (refine wpList_buildTo rfl 30 _ rfl (some 25) rfl Z0.toArray (Eq.trans (b := Tryd.prog.built 30 []) (by kernel_rfl) hbz) ?_)
        | (refine wpList_store_blk rfl 30 (.tmp 4) (.tmp 25) rfl (w.heap.size + 1) 0 Z0 rfl rfl 30 Z0 R5.out (Nat.le_of_eq (Nat.zero_add _)) (by rw [hz656]; exact infoTb) ZONE.out ?_; intro w6 b6 g6; rw [splice_all _ _ rfl] at b6; have U6 := Lib.hid b6; have W6 := Lib.hid (W5.out.grown g6 W5.out.size (fun g hg => by have := Option.some.inj hg; omega)); clear b6 g6)
        | (refine wpList_load_mid rfl 30 (.tmp 2) rfl w.heap.size 0 rfl L _ T4.out.range Tryd.underlying30 rfl (by rw [L656.out]; exact infoTb) ?_)
        | (refine wpList_load_mid rfl 30 (.tmp 2) rfl w.heap.size 0 rfl L _ T2.out.range Tryd.underlying30 rfl (by rw [L656.out]; exact infoTb) ?_))
      exact bodyPost_ret (results_mid2 rfl _ _ (w.heap.size + 1) Z0 _ rfl U6.out.range Tryd.underlying30 rfl (by rw [hz656]; exact infoTb)) rfl ⟨Eq.trans (b := Ending.returned (.tuple #[.agg Z0.toArray, .int .i64 31])) rfl RES, W6.out⟩
    · have hRE0 : RE = 0 := by rw [HRE.out]; unfold rerr; rw [if_pos HRO.out.symm, if_neg (by rw [← HRU.out]; exact hu)]
      have hadd : remove T p = T.set RI none_ := by
        unfold remove
        rw [if_pos (by rw [← HRE.out]; exact hRE0), ← HRI.out]
      obtain ⟨N, hN⟩ : ∃ N, N = tbc (T.set RI none_) := ⟨_, rfl⟩
      have HSPL := Lib.hid (show splice L (RI * 82) D1 = N by rw [HLE.out, HDE.out, hN]; exact tbc_set HT.out.ok RI none_ok (by rw [HT.out.len]; exact hri))
      have N656 := Lib.hid (show N.length = 656 by rw [hN]; exact tbc_len (HT.out.set RI none_ok))
      have NONE := Lib.hid (show N.toArray.all (·.oneCell') = true by rw [hN]; exact tbc_all _)
      have RES : (Ending.returned (.tuple #[.agg N.toArray, .int .i64 0]) : Ending) = .returned (.tuple #[.agg RT.toArray, .int .i64 RE]) := by rw [HRT.out, hadd, hN, hRE0]
      have huz : ¬ (RU : Int) = 1 := by omega
      have hrz : (RI : Int) < 8 := by omega
      clear hRE0 hadd hN hu
      go_enter Tryd.func25, Tryd.ntmps25
      go_upto_region 1 with fail
      rw [← HW2.out]
      clear HW2
      go_wp2_with ((fail_if_success (with_reducible show bodyPost _ _ _ _ _ _)); first
        | (go_at_call 19; (with_reducible refine HO.out.mono ?_); rintro e w3 ⟨rfl, b3⟩; have W3 := Lib.hid (W2.out.on b3); have T3 := Lib.hid (T2.out.below b3 T2.out.lt); have R3 := Lib.hid (R2.out.below b3 R2.out.lt); clear b3)
        | (refine wpList_store_blk rfl 25 (.tmp 6) (.tmp 13) rfl w3.heap.size 0 (row8 RK) rfl rfl 25 D0 (Blk.new w3 25 D0 _ rfl) (by rw [K32.out, hd0]; exact Nat.le_refl _) (by rw [K32.out]; exact infoK2) (row8_one _) ?_; intro w4 b4 g4; have hb4 := alloc_turn (Below.refl _ _) g4; have W4 := Lib.hid (W3.out.on hb4); have T4 := Lib.hid (T3.out.below hb4 T3.out.lt); have R4 := Lib.hid (R3.out.below hb4 R3.out.lt); clear b4 g4 hb4)
        | (go_at_call 13; (with_reducible refine (HU.out w4).mono ?_); rintro e w5 ⟨rfl, b5⟩; have W5 := Lib.hid (W4.out.on b5); have T5 := Lib.hid (T4.out.below b5 T4.out.lt); have R5 := Lib.hid (R4.out.below b5 R4.out.lt); clear b5)
        | (refine wpList_buildTo rfl 28 _ rfl (some 27) rfl D1.toArray (Eq.trans (b := Tryd.prog.built 28 []) (by kernel_rfl) hbs) ?_)
        | (refine wpList_store_blk rfl 28 (.tmp 28) (.tmp 27) rfl w.heap.size (RI * 82) D1 rfl rfl 30 L T5.out (by rw [hd1, L656.out]; omega) (by rw [hd1]; exact infoSl) DONE.out ?_; intro w7 b7 g7; rw [HSPL.out] at b7; have T7 := Lib.hid b7; have W7 := Lib.hid (W5.out.grown g7 W5.out.size (fun g hg => by have := Option.some.inj hg; omega)); have R7 := Lib.hid (R5.out.grown g7 (fun e => by have := Option.some.inj e; omega)); clear b7 g7)
        | (refine wpList_load_mid rfl 30 (.tmp 2) rfl w.heap.size 0 rfl N _ T7.out.range Tryd.underlying30 rfl (by rw [N656.out]; exact infoTb) ?_)
        | (refine wpList_store_blk rfl 30 (.tmp 4) (.tmp 29) rfl (w.heap.size + 1) 0 N rfl rfl 30 Z0 R7.out (by rw [N656.out, hz656]; exact Nat.le_refl _) (by rw [N656.out]; exact infoTb) NONE.out ?_; intro w8 b8 g8; rw [splice_all _ _ (by rw [N656.out, hz656])] at b8; have U8 := Lib.hid b8; have W8 := Lib.hid (W7.out.grown g8 W7.out.size (fun g hg => by have := Option.some.inj hg; omega)); clear b8 g8)
        | (refine wpList_load_mid rfl 30 (.tmp 2) rfl w.heap.size 0 rfl L _ T4.out.range Tryd.underlying30 rfl (by rw [L656.out]; exact infoTb) ?_)
        | (refine wpList_load_mid rfl 30 (.tmp 2) rfl w.heap.size 0 rfl L _ T2.out.range Tryd.underlying30 rfl (by rw [L656.out]; exact infoTb) ?_))
      exact bodyPost_ret (results_mid2 rfl _ _ (w.heap.size + 1) N _ rfl U8.out.range Tryd.underlying30 rfl (by rw [N656.out]; exact infoTb)) rfl ⟨Eq.trans (b := Ending.returned (.tuple #[.agg N.toArray, .int .i64 0])) rfl RES, W8.out⟩
  · have hRE0 : RE = RO := by rw [HRE.out]; unfold rerr; rw [if_neg (by rw [← HRO.out]; exact hc), HRO.out]
    have hadd : remove T p = zero := by unfold remove; rw [if_neg (by rw [← HRE.out, hRE0]; exact hc)]
    have RES : (Ending.returned (.tuple #[.agg Z0.toArray, .int .i64 RO]) : Ending) = .returned (.tuple #[.agg RT.toArray, .int .i64 RE]) := by rw [HRT.out, hadd, ← HZE.out, hRE0]
    clear hRE0 hadd
    go_enter Tryd.func25, Tryd.ntmps25
    go_upto_region 1 with fail
    rw [← HW2.out]
    clear HW2
    go_wp2_with ((fail_if_success (with_reducible show bodyPost _ _ _ _ _ _)); first
      | (refine wpList_load_mid rfl 30 (.tmp 2) rfl w.heap.size 0 rfl L _ T2.out.range Tryd.underlying30 rfl (by rw [L656.out]; exact infoTb) ?_)
      | (go_at_call 19; (with_reducible refine HO.out.mono ?_); rintro e w3 ⟨rfl, b3⟩; have W3 := Lib.hid (W2.out.on b3); have T3 := Lib.hid (T2.out.below b3 T2.out.lt); have R3 := Lib.hid (R2.out.below b3 R2.out.lt); clear b3)
      | (refine wpList_store_blk rfl 25 (.tmp 6) (.tmp 13) rfl w3.heap.size 0 (row8 RK) rfl rfl 25 D0 (Blk.new w3 25 D0 _ rfl) (by rw [K32.out, hd0]; exact Nat.le_refl _) (by rw [K32.out]; exact infoK2) (row8_one _) ?_; intro w4 b4 g4; have hb4 := alloc_turn (Below.refl _ _) g4; have W4 := Lib.hid (W3.out.on hb4); have T4 := Lib.hid (T3.out.below hb4 T3.out.lt); have R4 := Lib.hid (R3.out.below hb4 R3.out.lt); clear b4 g4 hb4)
      | (refine wpList_buildTo rfl 30 _ rfl (some 19) rfl Z0.toArray (Eq.trans (b := Tryd.prog.built 30 []) (by kernel_rfl) hbz) ?_)
      | (refine wpList_store_blk rfl 30 (.tmp 4) (.tmp 19) rfl (w.heap.size + 1) 0 Z0 rfl rfl 30 Z0 R4.out (Nat.le_of_eq (Nat.zero_add _)) (by rw [hz656]; exact infoTb) ZONE.out ?_; intro w6 b6 g6; rw [splice_all _ _ rfl] at b6; have U6 := Lib.hid b6; have W6 := Lib.hid (W4.out.grown g6 W4.out.size (fun g hg => by have := Option.some.inj hg; omega)); clear b6 g6))
    exact bodyPost_ret (results_mid2 rfl _ _ (w.heap.size + 1) Z0 _ rfl U6.out.range Tryd.underlying30 rfl (by rw [hz656]; exact infoTb)) rfl ⟨Eq.trans (b := Ending.returned (.tuple #[.agg Z0.toArray, .int .i64 RO])) rfl RES, W6.out⟩
set_option maxRecDepth 100000 in
set_option maxHeartbeats 2000000 in
theorem srotate_any (T : List Slot) (hT : Tok T) (p q salt : List Nat) (t : Int) (u v : Value) (w : World) (hs : Bytes 16 salt) (hu : Rd w u p) (hv : Rd w v q) (ha : TabX w) (hk : TabP w) :
    Calls Tryd.prog 23 #[.agg (tbc T).toArray, u, v, .agg (row8 salt).toArray, .int .i64 t] w fun e w' => e = .returned (.tuple #[.agg (tbc (rotate T p q salt t)).toArray, .int .i64 (terr T p q t)]) ∧ Below w.heap.size w w' := by
  obtain ⟨ua, uc, rfl, _⟩ := hu.shape
  obtain ⟨va, vc, rfl, _⟩ := hv.shape
  obtain ⟨pl, hpl⟩ : ∃ n, n = p.length := ⟨_, rfl⟩
  obtain ⟨ql, hql⟩ : ∃ n, n = q.length := ⟨_, rfl⟩
  obtain ⟨L, hL⟩ : ∃ L, L = tbc T := ⟨_, rfl⟩
  obtain ⟨RK, hRK⟩ : ∃ x, x = okey T p := ⟨_, rfl⟩
  obtain ⟨RI, hRI⟩ : ∃ x, x = oidx T p := ⟨_, rfl⟩
  obtain ⟨RO, hRO⟩ : ∃ x, x = oerr T p := ⟨_, rfl⟩
  obtain ⟨RC, hRC⟩ : ∃ x, x = comes T q t := ⟨_, rfl⟩
  obtain ⟨RE, hRE⟩ : ∃ x, x = terr T p q t := ⟨_, rfl⟩
  obtain ⟨RT, hRT⟩ : ∃ x, x = tbc (rotate T p q salt t) := ⟨_, rfl⟩
  obtain ⟨Z0, hZ0⟩ : ∃ D, D = tbc zero := ⟨_, rfl⟩
  obtain ⟨D0, hD0⟩ : ∃ D, D = row8 (List.replicate 32 0) := ⟨_, rfl⟩
  have hz : ∀ w, (zeroValue 30).run Tryd.prog w = .ok (.agg Z0.toArray) w := by rw [hZ0]; exact zeroTb
  have hzk : ∀ w, (zeroValue 25).run Tryd.prog w = .ok (.agg D0.toArray) w := by rw [hD0]; exact zeroK2
  have hd0 : D0.length = 32 := by rw [hD0, row8_len, List.length_replicate]
  have hz656 : Z0.length = 656 := by rw [hZ0]; exact tbc_len zero_ok
  have hbz : Tryd.prog.built 30 [] = some Z0.toArray := by rw [hZ0]; exact builtTb
  have ZONE := Lib.hid (show Z0.toArray.all (·.oneCell') = true by rw [hZ0]; exact tbc_all _)
  have L656 := Lib.hid (show L.length = 656 by rw [hL]; exact tbc_len hT)
  have A16 := Lib.hid (show (row8 salt).length = 16 by rw [row8_len]; exact hs.1)
  have BRK := Lib.hid (show Bytes 32 RK by rw [hRK]; exact okey_bytes hT p)
  have K32 := Lib.hid (show (row8 RK).length = 32 by rw [row8_len]; exact BRK.out.1)
  have hri : RI < 8 := by rw [hRI]; exact oidx_lt hT p
  have x1 := (Below.refl w.heap.size w).alloc (Nat.le_refl _) (.cells L.toArray 30)
  have x2 := x1.alloc x1.size (.cells (row8 salt).toArray 23)
  have x3 := x2.alloc x2.size (.cells Z0.toArray 30)
  obtain ⟨w3, hw3⟩ : ∃ x, x = ((w.alloc (.cells L.toArray 30)).alloc (.cells (row8 salt).toArray 23)).alloc (.cells Z0.toArray 30) := ⟨_, rfl⟩
  have W3 := Lib.hid (show Below w.heap.size w w3 by rw [hw3]; exact x3)
  have T3 := Lib.hid (show Blk w3 w.heap.size 30 L by rw [hw3]; exact ((Blk.new w _ L _ rfl).alloc _).alloc _)
  have A3 := Lib.hid (show Blk w3 (w.heap.size + 1) 23 (row8 salt) by rw [hw3]; exact (Blk.new (w.alloc (.cells L.toArray 30)) 23 (row8 salt) (w.heap.size + 1) (by simp)).alloc _)
  have R3 := Lib.hid (show Blk w3 (w.heap.size + 1 + 1) 30 Z0 by rw [hw3]; exact Blk.new ((w.alloc (.cells L.toArray 30)).alloc (.cells (row8 salt).toArray 23)) 30 Z0 (w.heap.size + 1 + 1) (by simp))
  have HW3 := Lib.hid hw3
  have HO := Lib.hid (sopen_any T hT p _ _ (hu.below W3.out) (ha.below W3.out) (hk.below W3.out))
  rw [← hL, ← hRK, ← hRI, ← hRO, ← hpl] at HO
  have HF := Lib.hid (fun W (hW : Below w.heap.size w W) => prefused_any T hT q t _ W (hv.below hW) (ha.below hW) (hk.below hW))
  rw [← hL, ← hRC, ← hql] at HF
  have HV := Lib.hid hv
  have HA := Lib.hid ha
  have HK := Lib.hid hk
  have HS := Lib.hid hs
  have HT := Lib.hid hT
  have HLE := Lib.hid hL
  have HRT := Lib.hid hRT
  have HRE := Lib.hid hRE
  have HRO := Lib.hid hRO
  have HRI := Lib.hid hRI
  have HRC := Lib.hid hRC
  have HRK := Lib.hid hRK
  have HZE := Lib.hid hZ0
  rw [← hql] at HV
  rw [← hL, ← hRT, ← hRE, ← hpl, ← hql]
  clear x1 x2 x3 hw3 hu hv ha hk hs hT hL hRT hRE hRO hRI hRC hRK hZ0 hD0 hpl hql
  by_cases hc : RO = 0
  · subst hc
    by_cases hf : RC = 0
    · subst hf
      obtain ⟨hq5, ht1, ht2⟩ := comes_none HRC.out.symm
      obtain ⟨tn, rfl⟩ : ∃ n : Nat, t = (n : Int) := ⟨t.toNat, by omega⟩
      have htn : 1 ≤ tn ∧ tn ≤ 4096 := by omega
      have HSE := Lib.hid (fun W (hW : Below w.heap.size w W) => psealed_any q salt RK tn (.slice va ql vc) W hq5 HS.out htn.1 htn.2 BRK.out (HV.out.below hW) (HA.out.below hW) (HK.out.below hW))
      have HMADE := Lib.hid (made_ok q (t := tn) (by omega) HS.out BRK.out)
      obtain ⟨F, hF⟩ : ∃ F, F = slc (made q salt tn RK) := ⟨_, rfl⟩
      have F82 := Lib.hid (show F.length = 82 by rw [hF]; exact slc_len HMADE.out)
      have FONE := Lib.hid (show F.toArray.all (·.oneCell') = true by rw [hF]; exact slc_all _)
      have HFE := Lib.hid hF
      rw [← hF] at HSE
      have hRE0 : RE = 0 := by rw [HRE.out]; unfold terr; rw [if_pos HRO.out.symm, ← HRC.out]
      have hadd : rotate T p q salt (tn : Int) = T.set RI (made q salt tn RK) := by
        unfold rotate
        rw [if_pos (by rw [← HRE.out]; exact hRE0), ← HRI.out, ← HRK.out]; rfl
      obtain ⟨N, hN⟩ : ∃ N, N = tbc (T.set RI (made q salt tn RK)) := ⟨_, rfl⟩
      have HSPL := Lib.hid (show splice L (RI * 82) F = N by rw [HLE.out, HFE.out, hN]; exact tbc_set HT.out.ok RI HMADE.out (by rw [HT.out.len]; exact hri))
      have N656 := Lib.hid (show N.length = 656 by rw [hN]; exact tbc_len (HT.out.set RI HMADE.out))
      have NONE := Lib.hid (show N.toArray.all (·.oneCell') = true by rw [hN]; exact tbc_all _)
      have RES : (Ending.returned (.tuple #[.agg N.toArray, .int .i64 0]) : Ending) = .returned (.tuple #[.agg RT.toArray, .int .i64 RE]) := by rw [HRT.out, hadd, hN, hRE0]
      have hrz : (RI : Int) < 8 := by omega
      clear hRE0 hadd hN hq5 ht1 ht2 htn hF
      go_enter Tryd.func23, Tryd.ntmps23
      go_upto_region 1 with fail
      rw [← HW3.out]
      clear HW3
      go_wp2_with ((fail_if_success (with_reducible show bodyPost _ _ _ _ _ _)); first
        | (go_at_call 19; (with_reducible refine HO.out.mono ?_); rintro e w4 ⟨rfl, b⟩; have W4 := Lib.hid (W3.out.on b); have T4 := Lib.hid (T3.out.below b T3.out.lt); have A4 := Lib.hid (A3.out.below b A3.out.lt); have R4 := Lib.hid (R3.out.below b R3.out.lt); clear b)
        | (refine wpList_store_blk rfl 25 (.tmp 12) (.tmp 19) rfl w4.heap.size 0 (row8 RK) rfl rfl 25 D0 (Blk.new w4 25 D0 _ rfl) (by rw [K32.out, hd0]; exact Nat.le_refl _) (by rw [K32.out]; exact infoK2) (row8_one _) ?_; intro w5 b g; rw [splice_all _ _ (by rw [K32.out, hd0])] at b; have hb5 := alloc_turn (Below.refl _ _) g; have K5 := Lib.hid b; have W5 := Lib.hid (W4.out.on hb5); have T5 := Lib.hid (T4.out.below hb5 T4.out.lt); have A5 := Lib.hid (A4.out.below hb5 A4.out.lt); have R5 := Lib.hid (R4.out.below hb5 R4.out.lt); have N5 := Lib.hid (show w.heap.size + 1 + 1 < w4.heap.size from R4.out.lt); clear b g hb5)
        | (go_at_call 43; (with_reducible refine (HF.out w5 W5.out).mono ?_); rintro e w6 ⟨rfl, b⟩; have W6 := Lib.hid (W5.out.on b); have T6 := Lib.hid (T5.out.below b T5.out.lt); have A6 := Lib.hid (A5.out.below b A5.out.lt); have R6 := Lib.hid (R5.out.below b R5.out.lt); have K6 := Lib.hid (K5.out.below b K5.out.lt); clear b)
        | (refine wpList_load_mid rfl 23 (.tmp 8) rfl (w.heap.size + 1) 0 rfl (row8 salt) _ A6.out.range Tryd.underlying23 rfl (by rw [A16.out]; exact info162) ?_)
        | (refine wpList_load_mid rfl 25 (.tmp 12) rfl w4.heap.size 0 rfl (row8 RK) _ K6.out.range Tryd.underlying25 rfl (by rw [K32.out]; exact infoK2) ?_)
        | (go_at_call 44; (with_reducible refine (HSE.out w6 W6.out).mono ?_); rintro e w7 ⟨rfl, b⟩; have W7 := Lib.hid (W6.out.on b); have T7 := Lib.hid (T6.out.below b T6.out.lt); have R7 := Lib.hid (R6.out.below b R6.out.lt); clear b)
        | (refine wpList_store_blk rfl 28 (.tmp 38) (.tmp 37) rfl w.heap.size (RI * 82) F rfl rfl 30 L T7.out (by rw [F82.out, L656.out]; omega) (by rw [F82.out]; exact infoSl) FONE.out ?_; intro w8 b g; rw [HSPL.out] at b; have T8 := Lib.hid b; have W8 := Lib.hid (W7.out.grown g W7.out.size (fun g hg => by have := Option.some.inj hg; omega)); have R8 := Lib.hid (R7.out.grown g (fun e => by have := Option.some.inj e; omega)); clear b g)
        | (refine wpList_load_mid rfl 30 (.tmp 5) rfl w.heap.size 0 rfl N _ T8.out.range Tryd.underlying30 rfl (by rw [N656.out]; exact infoTb) ?_)
        | (refine wpList_store_blk rfl 30 (.tmp 10) (.tmp 39) rfl (w.heap.size + 1 + 1) 0 N rfl rfl 30 Z0 R8.out (by rw [N656.out, hz656]; exact Nat.le_refl _) (by rw [N656.out]; exact infoTb) NONE.out ?_; intro w9 b g; rw [splice_all _ _ (by rw [N656.out, hz656])] at b; have U9 := Lib.hid b; have W9 := Lib.hid (W8.out.grown g W8.out.size (fun g hg => by have := Option.some.inj hg; omega)); clear b g)
        | (refine wpList_load_mid rfl 30 (.tmp 5) rfl w.heap.size 0 rfl L _ T5.out.range Tryd.underlying30 rfl (by rw [L656.out]; exact infoTb) ?_)
        | (refine wpList_load_mid rfl 30 (.tmp 5) rfl w.heap.size 0 rfl L _ T3.out.range Tryd.underlying30 rfl (by rw [L656.out]; exact infoTb) ?_))
      exact bodyPost_ret (results_mid2 rfl _ _ (w.heap.size + 1 + 1) N _ rfl U9.out.range Tryd.underlying30 rfl (by rw [N656.out]; exact infoTb)) rfl ⟨Eq.trans (b := Ending.returned (.tuple #[.agg N.toArray, .int .i64 0])) rfl RES, W9.out⟩
    · have hRE0 : RE = RC := by rw [HRE.out]; unfold terr; rw [if_pos HRO.out.symm, HRC.out]
      have hadd : rotate T p q salt t = zero := by unfold rotate; rw [if_neg (by rw [← HRE.out, hRE0]; exact hf)]
      have RES : (Ending.returned (.tuple #[.agg Z0.toArray, .int .i64 RC]) : Ending) = .returned (.tuple #[.agg RT.toArray, .int .i64 RE]) := by rw [HRT.out, hadd, ← HZE.out, hRE0]
      clear hRE0 hadd
      go_enter Tryd.func23, Tryd.ntmps23
      go_upto_region 1 with fail
      rw [← HW3.out]
      clear HW3
      go_wp2_with ((fail_if_success (with_reducible show bodyPost _ _ _ _ _ _)); first
        | (go_at_call 19; (with_reducible refine HO.out.mono ?_); rintro e w4 ⟨rfl, b⟩; have W4 := Lib.hid (W3.out.on b); have T4 := Lib.hid (T3.out.below b T3.out.lt); have A4 := Lib.hid (A3.out.below b A3.out.lt); have R4 := Lib.hid (R3.out.below b R3.out.lt); clear b)
        | (refine wpList_store_blk rfl 25 (.tmp 12) (.tmp 19) rfl w4.heap.size 0 (row8 RK) rfl rfl 25 D0 (Blk.new w4 25 D0 _ rfl) (by rw [K32.out, hd0]; exact Nat.le_refl _) (by rw [K32.out]; exact infoK2) (row8_one _) ?_; intro w5 b g; rw [splice_all _ _ (by rw [K32.out, hd0])] at b; have hb5 := alloc_turn (Below.refl _ _) g; have K5 := Lib.hid b; have W5 := Lib.hid (W4.out.on hb5); have T5 := Lib.hid (T4.out.below hb5 T4.out.lt); have A5 := Lib.hid (A4.out.below hb5 A4.out.lt); have R5 := Lib.hid (R4.out.below hb5 R4.out.lt); have N5 := Lib.hid (show w.heap.size + 1 + 1 < w4.heap.size from R4.out.lt); clear b g hb5)
        | (go_at_call 43; (with_reducible refine (HF.out w5 W5.out).mono ?_); rintro e w6 ⟨rfl, b⟩; have W6 := Lib.hid (W5.out.on b); have T6 := Lib.hid (T5.out.below b T5.out.lt); have A6 := Lib.hid (A5.out.below b A5.out.lt); have R6 := Lib.hid (R5.out.below b R5.out.lt); have K6 := Lib.hid (K5.out.below b K5.out.lt); clear b)
        | (refine wpList_buildTo rfl 30 _ rfl (some 30) rfl Z0.toArray (Eq.trans (b := Tryd.prog.built 30 []) (by kernel_rfl) hbz) ?_)
        | (refine wpList_store_blk rfl 30 (.tmp 10) (.tmp 30) rfl (w.heap.size + 1 + 1) 0 Z0 rfl rfl 30 Z0 R6.out (Nat.le_of_eq (Nat.zero_add _)) (by rw [hz656]; exact infoTb) ZONE.out ?_; intro w9 b g; rw [splice_all _ _ rfl] at b; have U9 := Lib.hid b; have W9 := Lib.hid (W6.out.grown g W6.out.size (fun g hg => by have := Option.some.inj hg; omega)); clear b g)
        | (refine wpList_load_mid rfl 30 (.tmp 5) rfl w.heap.size 0 rfl L _ T5.out.range Tryd.underlying30 rfl (by rw [L656.out]; exact infoTb) ?_)
        | (refine wpList_load_mid rfl 30 (.tmp 5) rfl w.heap.size 0 rfl L _ T3.out.range Tryd.underlying30 rfl (by rw [L656.out]; exact infoTb) ?_))
      exact bodyPost_ret (results_mid2 rfl _ _ (w.heap.size + 1 + 1) Z0 _ rfl U9.out.range Tryd.underlying30 rfl (by rw [hz656]; exact infoTb)) rfl ⟨Eq.trans (b := Ending.returned (.tuple #[.agg Z0.toArray, .int .i64 RC])) rfl RES, W9.out⟩
  · have hRE0 : RE = RO := by rw [HRE.out]; unfold terr; rw [if_neg (by rw [← HRO.out]; exact hc), HRO.out]
    have hadd : rotate T p q salt t = zero := by unfold rotate; rw [if_neg (by rw [← HRE.out, hRE0]; exact hc)]
    have RES : (Ending.returned (.tuple #[.agg Z0.toArray, .int .i64 RO]) : Ending) = .returned (.tuple #[.agg RT.toArray, .int .i64 RE]) := by rw [HRT.out, hadd, ← HZE.out, hRE0]
    clear hRE0 hadd
    go_enter Tryd.func23, Tryd.ntmps23
    go_upto_region 1 with fail
    rw [← HW3.out]
    clear HW3
    go_wp2_with ((fail_if_success (with_reducible show bodyPost _ _ _ _ _ _)); first
      | (go_at_call 19; (with_reducible refine HO.out.mono ?_); rintro e w4 ⟨rfl, b⟩; have W4 := Lib.hid (W3.out.on b); have T4 := Lib.hid (T3.out.below b T3.out.lt); have A4 := Lib.hid (A3.out.below b A3.out.lt); have R4 := Lib.hid (R3.out.below b R3.out.lt); clear b)
      | (refine wpList_store_blk rfl 25 (.tmp 12) (.tmp 19) rfl w4.heap.size 0 (row8 RK) rfl rfl 25 D0 (Blk.new w4 25 D0 _ rfl) (by rw [K32.out, hd0]; exact Nat.le_refl _) (by rw [K32.out]; exact infoK2) (row8_one _) ?_; intro w5 b g; rw [splice_all _ _ (by rw [K32.out, hd0])] at b; have hb5 := alloc_turn (Below.refl _ _) g; have K5 := Lib.hid b; have W5 := Lib.hid (W4.out.on hb5); have T5 := Lib.hid (T4.out.below hb5 T4.out.lt); have A5 := Lib.hid (A4.out.below hb5 A4.out.lt); have R5 := Lib.hid (R4.out.below hb5 R4.out.lt); have N5 := Lib.hid (show w.heap.size + 1 + 1 < w4.heap.size from R4.out.lt); clear b g hb5)
      | (refine wpList_buildTo rfl 30 _ rfl (some 30) rfl Z0.toArray (Eq.trans (b := Tryd.prog.built 30 []) (by kernel_rfl) hbz) ?_)
      | (refine wpList_store_blk rfl 30 (.tmp 10) (.tmp 30) rfl (w.heap.size + 1 + 1) 0 Z0 rfl rfl 30 Z0 R5.out (Nat.le_of_eq (Nat.zero_add _)) (by rw [hz656]; exact infoTb) ZONE.out ?_; intro w9 b g; rw [splice_all _ _ rfl] at b; have U9 := Lib.hid b; have W9 := Lib.hid (W5.out.grown g W5.out.size (fun g hg => by have := Option.some.inj hg; omega)); clear b g)
      | (refine wpList_load_mid rfl 30 (.tmp 5) rfl w.heap.size 0 rfl L _ T3.out.range Tryd.underlying30 rfl (by rw [L656.out]; exact infoTb) ?_))
    exact bodyPost_ret (results_mid2 rfl _ _ (w.heap.size + 1 + 1) Z0 _ rfl U9.out.range Tryd.underlying30 rfl (by rw [hz656]; exact infoTb)) rfl ⟨Eq.trans (b := Ending.returned (.tuple #[.agg Z0.toArray, .int .i64 RO])) rfl RES, W9.out⟩
end Go.Proofs.YtbepchikngoknaaDoor

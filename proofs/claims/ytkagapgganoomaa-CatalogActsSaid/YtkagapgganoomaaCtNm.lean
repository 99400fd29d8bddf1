/- Names, refs that may be: contracts of the program and of the document's answer. Own work. -/
import Derived.Test.YtkagapgganoomaaCtEq
import Derived.Test.YtkagapgganoomaaReg
namespace Go.Proofs.Ytkagapgganoomaa
open Go.ChangeShapes Go.WideShapes Go.ChangeAt Go.RowKit
open RT CT
/-- The k-th byte of a string. -/
theorem str_get (s : ByteArray) (k : Nat) (h : k < s.size) : ((s[k]'h).toNat : Int) = ((gb (sb s) k : Nat) : Int) := by
  unfold gb sb
  rw [List.getD_eq_getElem?_getD, List.getElem?_map, Array.getElem?_toList, Array.getElem?_eq_getElem h]
  rfl
set_option maxHeartbeats 1000000 in
theorem pname_same (s : ByteArray) (w : World) : Calls Try.prog 20 #[.string s] w fun e w' => e = .returned (.bool (isName s)) ∧ w' = w := by
  obtain ⟨R, hR⟩ : ∃ R, R = isName s := ⟨_, rfl⟩
  have HI := Lib.hid (isName_iff (s := s))
  rw [← hR] at HI ⊢
  clear hR
  by_cases h1 : s.size < 1
  · have h1' : (s.size : Int) < 1 := by omega
    obtain rfl : R = false := Bool.eq_false_iff.2 fun h => by have := (HI.out.1 h).1; omega
    clear HI
    go_enter Try.func20, Try.ntmps20
    go_wp2_with fail
    go_ret
    exact ⟨rfl, rfl⟩
  · have h1' : ¬ (s.size : Int) < 1 := by omega
    by_cases h2 : 16 < s.size
    · have h2' : (16 : Int) < (s.size : Int) := by omega
      obtain rfl : R = false := Bool.eq_false_iff.2 fun h => by have := (HI.out.1 h).2.1; omega
      clear HI
      go_enter Try.func20, Try.ntmps20
      go_wp2_with fail
      go_ret
      exact ⟨rfl, rfl⟩
    · have h2' : ¬ (16 : Int) < (s.size : Int) := by omega
      have H12 := Lib.hid (show 1 ≤ s.size ∧ s.size ≤ 16 by omega)
      go_enter Try.func20, Try.ntmps20
      go_wp2_with fail
      go_loopw [14] (fun i wr => ∃ k : Nat, k ≤ s.size ∧ i = .int .i64 (k : Int) ∧ wr = w ∧ ∀ j, j < k → okB (gb (sb s) j) = true) (fun i _ => s.size - (intOf i).toNat)
      case atStart => exact ⟨0, Nat.zero_le _, rfl, rfl, fun j h => absurd h (Nat.not_lt_zero j)⟩
      case round =>
        obtain ⟨k, hk, rfl, rfl, hz⟩ := hrel
        have HZ := Lib.hid hz
        clear hz
        by_cases hlt : k < s.size
        · have hklt : (k : Int) < (s.size : Int) := by omega
          have hg := str_get s k hlt
          have hgl := sb_byte s k
          obtain ⟨x, hx⟩ : ∃ x, x = gb (sb s) k := ⟨_, rfl⟩
          rw [← hx] at hg hgl
          have HX := Lib.hid hx
          clear hx
          by_cases g1 : x < 33
          · have g1' : (x : Int) < 33 := by omega
            obtain rfl : R = false := Bool.eq_false_iff.2 fun h => by
              have := (HI.out.1 h).2.2 k hlt
              rw [← HX.out] at this; unfold okB at this; simp at this; omega
            clear HI HZ
            go_wp2_with fail
            go_ret
            exact ⟨rfl, rfl⟩
          · have g1' : ¬ (x : Int) < 33 := by omega
            by_cases g2 : 126 < x
            · have g2' : (126 : Int) < (x : Int) := by omega
              obtain rfl : R = false := Bool.eq_false_iff.2 fun h => by
                have := (HI.out.1 h).2.2 k hlt
                rw [← HX.out] at this; unfold okB at this; simp at this; omega
              clear HI HZ
              go_wp2_with fail
              go_ret
              exact ⟨rfl, rfl⟩
            · have g2' : ¬ (126 : Int) < (x : Int) := by omega
              have HO := Lib.hid (show okB x = true by unfold okB; simp; omega)
              go_wp2_with fail
              refine ⟨⟨k + 1, by omega, by go_num, trivial, fun j hj => ?_⟩, by simp [intOf]; omega⟩
              by_cases e : j = k
              · subst e; rw [← HX.out]; exact HO.out
              · exact HZ.out j (by omega)
        · obtain rfl : k = s.size := by omega
          have hkk : ¬ (s.size : Int) < (s.size : Int) := by omega
          obtain rfl : R = true := HI.out.2 ⟨H12.out.1, H12.out.2, HZ.out⟩
          clear HI HZ
          go_wp2_with fail
          go_ret
          exact ⟨rfl, rfl⟩
set_option maxHeartbeats 1000000 in
theorem rname_same (s : ByteArray) (w : World) : Calls Try.prog 21 #[.string s] w fun e w' => e = .returned (.bool (isName s)) ∧ w' = w := by
  obtain ⟨R, hR⟩ : ∃ R, R = isName s := ⟨_, rfl⟩
  have HI := Lib.hid (isName_iff (s := s))
  rw [← hR] at HI ⊢
  clear hR
  by_cases h1 : s.size < 1
  · have h1' : (s.size : Int) < 1 := by omega
    obtain rfl : R = false := Bool.eq_false_iff.2 fun h => by have := (HI.out.1 h).1; omega
    clear HI
    go_enter Try.func21, Try.ntmps21
    go_wp2_with fail
    go_ret
    exact ⟨rfl, rfl⟩
  · have h1' : ¬ (s.size : Int) < 1 := by omega
    by_cases h2 : 16 < s.size
    · have h2' : (16 : Int) < (s.size : Int) := by omega
      obtain rfl : R = false := Bool.eq_false_iff.2 fun h => by have := (HI.out.1 h).2.1; omega
      clear HI
      go_enter Try.func21, Try.ntmps21
      go_wp2_with fail
      go_ret
      exact ⟨rfl, rfl⟩
    · have h2' : ¬ (16 : Int) < (s.size : Int) := by omega
      have H12 := Lib.hid (show 1 ≤ s.size ∧ s.size ≤ 16 by omega)
      go_enter Try.func21, Try.ntmps21
      go_wp2_with fail
      go_loopw [3] (fun i wr => ∃ k : Nat, k ≤ s.size ∧ i = .int .i64 (k : Int) ∧ wr = w ∧ ∀ j, j < k → okB (gb (sb s) j) = true) (fun i _ => s.size - (intOf i).toNat)
      case atStart => exact ⟨0, Nat.zero_le _, rfl, rfl, fun j h => absurd h (Nat.not_lt_zero j)⟩
      case round =>
        obtain ⟨k, hk, rfl, rfl, hz⟩ := hrel
        have HZ := Lib.hid hz
        clear hz
        by_cases hlt : k < s.size
        · have hklt : (k : Int) < (s.size : Int) := by omega
          have hg := str_get s k hlt
          have hgl := sb_byte s k
          obtain ⟨x, hx⟩ : ∃ x, x = gb (sb s) k := ⟨_, rfl⟩
          rw [← hx] at hg hgl
          have HX := Lib.hid hx
          clear hx
          by_cases g1 : x < 33
          · have g1' : (x : Int) < 33 := by omega
            obtain rfl : R = false := Bool.eq_false_iff.2 fun h => by
              have := (HI.out.1 h).2.2 k hlt
              rw [← HX.out] at this; unfold okB at this; simp at this; omega
            clear HI HZ
            go_wp2_with fail
            go_ret
            exact ⟨rfl, rfl⟩
          · have g1' : ¬ (x : Int) < 33 := by omega
            by_cases g2 : 126 < x
            · have g2' : (126 : Int) < (x : Int) := by omega
              obtain rfl : R = false := Bool.eq_false_iff.2 fun h => by
                have := (HI.out.1 h).2.2 k hlt
                rw [← HX.out] at this; unfold okB at this; simp at this; omega
              clear HI HZ
              go_wp2_with fail
              go_ret
              exact ⟨rfl, rfl⟩
            · have g2' : ¬ (126 : Int) < (x : Int) := by omega
              have HO := Lib.hid (show okB x = true by unfold okB; simp; omega)
              go_wp2_with fail
              refine ⟨⟨k + 1, by omega, by go_num, trivial, fun j hj => ?_⟩, by simp [intOf]; omega⟩
              by_cases e : j = k
              · subst e; rw [← HX.out]; exact HO.out
              · exact HZ.out j (by omega)
        · obtain rfl : k = s.size := by omega
          have hkk : ¬ (s.size : Int) < (s.size : Int) := by omega
          obtain rfl : R = true := HI.out.2 ⟨H12.out.1, H12.out.2, HZ.out⟩
          clear HI HZ
          go_wp2_with fail
          go_ret
          exact ⟨rfl, rfl⟩
theorem pname_any (s : ByteArray) (w : World) : Calls Try.prog 20 #[.string s] w fun e w' => e = .returned (.bool (isName s)) ∧ Below w.heap.size w w' := (pname_same s w).mono fun _ _ ⟨he, hw⟩ => ⟨he, by rw [hw]; exact Below.refl _ _⟩
theorem rname_any (s : ByteArray) (w : World) : Calls Try.prog 21 #[.string s] w fun e w' => e = .returned (.bool (isName s)) ∧ Below w.heap.size w w' := (rname_same s w).mono fun _ _ ⟨he, hw⟩ => ⟨he, by rw [hw]; exact Below.refl _ _⟩
theorem builtRf0 : Try.prog.built 26 [] = some (pc CT.zp).toArray := by kernel_rfl
theorem builtCt0 : Try.prog.built 29 [] = some (ctc CT.zero (.slice none 0 0)).toArray := by kernel_rfl
theorem ex_buildN {o : Oper} {a : Act} {w : World} {t : TypeId} {cells : Array Value} (ho : o.op = .build t #[]) (h : Try.prog.built t [] = some cells) : (execOp a.eval o).run Try.prog w = .ok (.value (.agg cells)) w := ex_build ho (by simpa using h)
set_option maxRecDepth 100000 in
set_option maxHeartbeats 1000000 in
theorem cpmay_any (p : Pg) (hp : Pok p) (w : World) : Calls Try.prog 59 #[.agg (pc p).toArray] w fun e w' => e = .returned (.bool (CT.mayP p)) ∧ Below w.heap.size w w' := by
  obtain ⟨L, hL⟩ : ∃ L, L = pc p := ⟨_, rfl⟩
  have hb := Blk.new w 26 L _ rfl
  have c0 := hb.cell 0 _ (show L[0]? = some (.int .u32 (p.at_ : Int)) by rw [hL]; rfl)
  have X1 := Lib.hid hb
  have W1 := Lib.hid ((Below.refl w.heap.size w).alloc (Nat.le_refl _) (.cells L.toArray 26))
  have L33 := Lib.hid (show L.length = 33 by rw [hL]; exact pc_len hp)
  obtain ⟨E, hE⟩ : ∃ E, E = pgEq p CT.zp := ⟨_, rfl⟩
  have HC := Lib.hid (fun W => run_eql_ref hp CT.zp_ok W)
  rw [← hE, ← hL] at HC
  obtain ⟨Q, hQ⟩ : ∃ Q, Q = CT.mayP p := ⟨_, rfl⟩
  obtain ⟨x, hx⟩ : ∃ x, x = p.at_ := ⟨_, rfl⟩
  have hq : Q = (decide (x ≠ 0) || E) := by rw [hQ, hx, hE]; rfl
  have hbr := builtRf0
  obtain ⟨Zc, hZc⟩ : ∃ Z, Z = pc CT.zp := ⟨_, rfl⟩
  rw [← hZc] at HC hbr
  rw [← hx] at c0
  rw [← hL, ← hQ]
  clear hL hE hQ hx hp hb hZc
  by_cases h : x = 0
  · subst h
    obtain rfl : Q = E := by rw [hq]; simp
    clear hq
    go_enter Try.func59, Try.ntmps59
    go_wp2_with ((fail_if_success (with_reducible show bodyPost _ _ _ _ _ _)); first
      | ((with_reducible show wpList _ _ _ (Oper.mk _ (.load _ (.tmp 1)) _ _ _ _ :: _) _ _); refine wpList_loadW 26 (.tmp 1) rfl w.heap.size 0 rfl L _ X1.out.range Try.underlying26 rfl (by rw [L33.out]; exact infoRf) rfl ?_)
      | ((with_reducible show wpList _ _ _ (Oper.mk (some 8) (.build _ _) _ _ _ _ :: _) _ _); refine wpList_wanted rfl (.agg Zc.toArray) (ex_buildN rfl hbr) ?_)
      | ((with_reducible show wpList _ _ _ (Oper.mk _ (.binOp _ _ (.tmp 7) (.tmp 8) _) _ _ _ _ :: _) _ _); refine wpList_binW (.tmp 7) (.tmp 8) .eql 26 26 rfl (.agg L.toArray) (.agg Zc.toArray) _ rfl rfl (run_eqGuard_agg (P := Try.prog) (w := _) .eql 26 _ _ _ _ eqTypeRf) (HC.out _) rfl ?_))
    go_ret
    exact ⟨rfl, W1.out⟩
  · obtain rfl : Q = true := by rw [hq, decide_eq_true h]; rfl
    have hxe : ((x : Int) == 0) = false := by simpa using h
    clear hq
    go_enter Try.func59, Try.ntmps59
    go_wp2_with fail
    go_ret
    exact ⟨rfl, W1.out⟩
set_option maxRecDepth 100000 in
set_option maxHeartbeats 1000000 in
theorem crmay_any (p : Pg) (hp : Pok p) (w : World) : Calls Try.prog 40 #[.agg (pc p).toArray] w fun e w' => e = .returned (.bool (CT.mayP p)) ∧ Below w.heap.size w w' := by
  obtain ⟨L, hL⟩ : ∃ L, L = pc p := ⟨_, rfl⟩
  have hb := Blk.new w 26 L _ rfl
  have c0 := hb.cell 0 _ (show L[0]? = some (.int .u32 (p.at_ : Int)) by rw [hL]; rfl)
  have X1 := Lib.hid hb
  have W1 := Lib.hid ((Below.refl w.heap.size w).alloc (Nat.le_refl _) (.cells L.toArray 26))
  have L33 := Lib.hid (show L.length = 33 by rw [hL]; exact pc_len hp)
  obtain ⟨E, hE⟩ : ∃ E, E = pgEq p CT.zp := ⟨_, rfl⟩
  have HC := Lib.hid (fun W => run_eql_ref hp CT.zp_ok W)
  rw [← hE, ← hL] at HC
  obtain ⟨Q, hQ⟩ : ∃ Q, Q = CT.mayP p := ⟨_, rfl⟩
  obtain ⟨x, hx⟩ : ∃ x, x = p.at_ := ⟨_, rfl⟩
  have hq : Q = (decide (x ≠ 0) || E) := by rw [hQ, hx, hE]; rfl
  have hbr := builtRf0
  obtain ⟨Zc, hZc⟩ : ∃ Z, Z = pc CT.zp := ⟨_, rfl⟩
  rw [← hZc] at HC hbr
  rw [← hx] at c0
  rw [← hL, ← hQ]
  clear hL hE hQ hx hp hb hZc
  by_cases h : x = 0
  · subst h
    obtain rfl : Q = E := by rw [hq]; simp
    clear hq
    go_enter Try.func40, Try.ntmps40
    go_wp2_with ((fail_if_success (with_reducible show bodyPost _ _ _ _ _ _)); first
      | ((with_reducible show wpList _ _ _ (Oper.mk _ (.load _ (.tmp 1)) _ _ _ _ :: _) _ _); refine wpList_loadW 26 (.tmp 1) rfl w.heap.size 0 rfl L _ X1.out.range Try.underlying26 rfl (by rw [L33.out]; exact infoRf) rfl ?_)
      | ((with_reducible show wpList _ _ _ (Oper.mk (some 8) (.build _ _) _ _ _ _ :: _) _ _); refine wpList_wanted rfl (.agg Zc.toArray) (ex_buildN rfl hbr) ?_)
      | ((with_reducible show wpList _ _ _ (Oper.mk _ (.binOp _ _ (.tmp 7) (.tmp 8) _) _ _ _ _ :: _) _ _); refine wpList_binW (.tmp 7) (.tmp 8) .eql 26 26 rfl (.agg L.toArray) (.agg Zc.toArray) _ rfl rfl (run_eqGuard_agg (P := Try.prog) (w := _) .eql 26 _ _ _ _ eqTypeRf) (HC.out _) rfl ?_))
    go_ret
    exact ⟨rfl, W1.out⟩
  · obtain rfl : Q = true := by rw [hq, decide_eq_true h]; rfl
    have hxe : ((x : Int) == 0) = false := by simpa using h
    clear hq
    go_enter Try.func40, Try.ntmps40
    go_wp2_with fail
    go_ret
    exact ⟨rfl, W1.out⟩
end Go.Proofs.Ytkagapgganoomaa

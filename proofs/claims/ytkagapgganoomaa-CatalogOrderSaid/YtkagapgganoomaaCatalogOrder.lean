/- For whatever names, at most twenty, and whatever tree: added in their order or in the other one they make the same catalog; its names rise, and it may be. The law is told true. Own work. -/
import Derived.Test.YtkagapgganoomaaRows
import Derived.Test.YtkagapgganoomaaCtAw
import Derived.Test.YtkagapgganoomaaCtSameB
import Derived.Test.YtkagapgganoomaaCtCopy
import Derived.Test.YtkagapgganoomaaCtArg
import Derived.Test.YtkagapgganoomaaFactX
import Derived.Test.YtkagapgganoomaaReg
import Derived.Test.YtkagapgganoomaaCtOrd
import Derived.Test.YtkagapgganoomaaCtY
import Derived.Test.YtkagapgganoomaaCtNames
import Derived.Test.YtkagapgganoomaaFillX
import Derived.WalkKit
import Derived.ProofKit
import Derived.OpenShut
import Derived.SizedLaws
import Derived.Carry
import Derived.Deep.DeepHandedRow
import Derived.Deep.DeepWitnessRowRef
namespace Go.Proofs.Ytkagapgganoomaa.catalogOrder
open Go.ChangeShapes Go.WideShapes Go.ChangeAt Go.RowKit
open RT CT
theorem built_rf (n : Nat) : Try.prog.built 26 [(0, .int .u32 (n : Int))] = some (pc ⟨n, List.replicate 32 0⟩).toArray := by
  have e : Try.prog.built 26 [(0, .int .u32 (n : Int))] = Instr.fill (#[(0, 1), (1, 32)][·]?) (pc CT.zp).toArray [(0, .int .u32 (n : Int))] := by kernel_rfl
  rw [e, fill_step _ 0 0 1 rfl _ [.int .u32 (n : Int)] rfl rfl (pc CT.zp) (by rw [pc_len CT.zp_ok]; decide), fill_nil]
  rfl
theorem own : ownKnob Try.prog.godebug = none := by kernel_rfl
theorem cells9 : Try.prog.cellsOf 9 = 1 := by kernel_rfl
set_option linter.unusedVariables false in
set_option maxHeartbeats 16000000 in
set_option maxRecDepth 100000 in
theorem walk (w : World) (v0 : Value) (l0 : List ByteArray) (h0 : Strs w v0 l0) (a1 : Int) (w1 : (Lit.int .u32 a1).wf = true) :
    Calls Try.prog 9 #[v0, .int .u32 a1] w fun e w' => e = .returned (.bool true) ∧ Below w.heap.size w w' := by
  have HAW := Lib.hid (fun W => cawake_any W)
  by_cases hbig : 20 < l0.length
  · obtain ⟨na, nq, rfl, -⟩ := h0.shape
    have hb' : (20 : Int) < (l0.length : Int) := by omega
    clear h0
    go_enter Try.func9, Try.ntmps9
    go_wp2_with (go_at_call 11; (with_reducible refine (HAW.out _).mono ?_); rintro e w3 ⟨rfl, b3⟩; have W3 := Lib.hid b3; clear b3)
    go_ret
    exact ⟨rfl, W3.out⟩
  · obtain ⟨at_, rfl⟩ : ∃ x : Nat, a1 = (x : Int) := ⟨a1.toNat, by
      have w1' : 0 ≤ a1 ∧ a1 ≤ 4294967295 := by simpa [Lit.wf, IntKind.min, IntKind.max, IntKind.signed, IntKind.bits] using w1
      omega⟩
    have hat : at_ < 4294967296 := by
      have w1' : 0 ≤ (at_ : Int) ∧ (at_ : Int) ≤ 4294967295 := by simpa [Lit.wf, IntKind.min, IntKind.max, IntKind.signed, IntKind.bits] using w1
      omega
    clear w1
    obtain ⟨p, hp⟩ : ∃ p : Pg, p = ⟨at_, List.replicate 32 0⟩ := ⟨_, rfl⟩
    have hpok : Pok p := by rw [hp]; exact ⟨hat, bytes_zero 32⟩
    have hpm : mayP p = true := by
      rw [hp]; unfold mayP
      by_cases e : at_ = 0
      · subst e; decide
      · simp [e]
    have hp0 : at_ = 0 → p = CT.zp := fun e => by rw [hp, e]; rfl
    have P33 := Lib.hid (pc_len hpok)
    have PO1 := Lib.hid (show (pc p).toArray.all (·.oneCell') = true by rw [List.all_toArray, List.all_eq_true]; exact pc_one' _)
    have HBR := Lib.hid (show Try.prog.built 26 [(0, .int .u32 (at_ : Int))] = some (pc p).toArray by rw [hp]; exact built_rf at_)
    have HP0 := Lib.hid hp0
    have hb' : ¬ (20 : Int) < (l0.length : Int) := by omega
    obtain ⟨Z, hZ⟩ : ∃ Z, Z = ctc CT.zero (.slice none 0 0) := ⟨_, rfl⟩
    have hz : ∀ w, (zeroValue 29).run Try.prog w = .ok (.agg Z.toArray) w := by rw [hZ]; exact zeroCt
    have hbr : Try.prog.built 29 [] = some Z.toArray := by rw [hZ]; exact builtCt0
    have Z34 := Lib.hid (show Z.length = 34 by rw [hZ]; exact ctc_len CT.zp_ok _)
    have ZO := Lib.hid (show Z.toArray.all (·.oneCell') = true by rw [hZ]; exact ctc_all rfl)
    have HZS := Lib.hid (show splice Z 0 (pc p) = ctc ⟨p, []⟩ (.slice none 0 0) by
      rw [hZ]; unfold splice ctc; rw [P33.out, List.take_zero, List.nil_append, List.drop_append, pc_len (p := CT.zero.top) CT.zp_ok, List.drop_eq_nil_of_le (by rw [pc_len (p := CT.zero.top) CT.zp_ok]; decide)]; rfl)
    have HZ0 := Lib.hid (fun (e : at_ = 0) => show Z = ctc ⟨p, []⟩ (.slice none 0 0) by rw [hZ, hp0 e]; rfl)
    clear hZ hp hp0
    have HS := Lib.hid h0
    obtain ⟨na, nq, rfl, hnq⟩ := h0.shape
    have h60 : l0.length ≤ 60 := by omega
    have HOA := Lib.hid (fun k hk => CT.fold_of hpok hpm l0 h60 k hk)
    have HOB := Lib.hid (fun k (hk : k ≤ l0.reverse.length) => CT.fold_of hpok hpm l0.reverse (by rw [List.length_reverse]; exact h60) k hk)
    have HEA := Lib.hid (fun k (hk : k < l0.length) => CT.fold_err p l0 hk)
    have HEB := Lib.hid (fun k (hk : k < l0.reverse.length) => CT.fold_err p l0.reverse hk)
    have HRV := Lib.hid (CT.fold_rev hpok hpm l0 h60)
    have HF0A := Lib.hid (CT.fold_zero p l0)
    have HF0B := Lib.hid (CT.fold_zero p l0.reverse)
    obtain ⟨FA, hFA⟩ : ∃ F, F = CT.fold p l0 := ⟨_, rfl⟩
    obtain ⟨FB, hFB⟩ : ∃ F, F = CT.fold p l0.reverse := ⟨_, rfl⟩
    rw [← hFA] at HOA HEA HRV HF0A
    rw [← hFB] at HOB HEB HRV HF0B
    have HRL := Lib.hid (show l0.reverse.length = l0.length from List.length_reverse)
    have HRG := Lib.hid (fun k (h : k < l0.length) => show l0.reverse[k]'(by rw [List.length_reverse]; exact h) = l0[l0.length - 1 - k]'(by omega) from List.getElem_reverse _)
    obtain ⟨n, hn⟩ : ∃ n, n = l0.length := ⟨_, rfl⟩
    have HN := Lib.hid hn
    have hn20 : n ≤ 20 := by omega
    rw [← hn] at HS hb' ⊢
    clear hFA hFB hbig hpok hpm h60 hn hnq h0
    obtain ⟨bA, hbA⟩ : ∃ b, b = w.heap.size := ⟨_, rfl⟩
    obtain ⟨bB, hbB⟩ : ∃ b, b = w.heap.size + 1 := ⟨_, rfl⟩
    have HBA := Lib.hid hbA
    have HBB := Lib.hid hbB
    clear hbA hbB
    have Z33 := Lib.hid (show (pc p).length = 33 from P33.out)
    obtain ⟨PP, hPP⟩ : ∃ x, x = pc p := ⟨_, rfl⟩
    rw [← hPP] at P33 PO1 HBR HZS Z33
    clear hPP
    by_cases h00 : at_ = 0
    · have h00' : ((at_ : Int) == 0) = true := by simp [h00]
      have h00'' : (at_ : Int) = 0 := by omega
      go_enter Try.func9, Try.ntmps9
      go_wp2_with ((fail_if_success (with_reducible show bodyPost _ _ _ _ _ _)); first
        | ((with_reducible show wpList _ _ _ (Oper.mk (some 18) (.build _ _) _ _ _ _ :: _) _ _); refine wpList_wanted rfl (.agg Z.toArray) (ex_buildN rfl hbr) ?_)
        | ((with_reducible show wpList _ _ _ (Oper.mk (some 19) (.build _ _) _ _ _ _ :: _) _ _); refine wpList_wanted rfl (.agg Z.toArray) (ex_buildN rfl hbr) ?_)
        | ((with_reducible show wpList _ _ _ (Oper.mk _ (.store _ (.tmp 5) (.tmp 18)) _ _ _ _ :: _) _ _); refine wpList_store_blk rfl 29 (.tmp 5) (.tmp 18) rfl w.heap.size 0 Z rfl rfl 29 Z ((Blk.new w 29 Z _ rfl).alloc (.cells Z.toArray 29)) (by rw [Z34.out]; exact Nat.le_refl _) (by rw [Z34.out]; exact infoCtC) ZO.out ?_; intro w3 b3 g3; rw [splice_all _ _ rfl, ← HBA.out] at b3; have XA3 := Lib.hid b3; have XB3 := Lib.hid ((Blk.new (w.alloc (.cells Z.toArray 29)) 29 Z (w.heap.size + 1) (by simp)).grown g3 (fun e => by have := Option.some.inj e; omega)); have W3 := Lib.hid ((((Below.refl w.heap.size w).alloc (Nat.le_refl _) (.cells Z.toArray 29)).alloc (by simp) (.cells Z.toArray 29)).grown g3 (by simp; omega) (fun g hg => Nat.le_of_eq (Option.some.inj hg))); clear b3 g3)
        | ((with_reducible show wpList _ _ _ (Oper.mk _ (.store _ (.tmp 6) (.tmp 19)) _ _ _ _ :: _) _ _); refine wpList_store_blk rfl 29 (.tmp 6) (.tmp 19) rfl (w.heap.size + 1) 0 Z rfl rfl 29 Z XB3.out (by rw [Z34.out]; exact Nat.le_refl _) (by rw [Z34.out]; exact infoCtC) ZO.out ?_; intro w4 b4 g4; rw [splice_all _ _ rfl, ← HBB.out] at b4; have XB4 := Lib.hid b4; have XA4 := Lib.hid (XA3.out.grown g4 (fun e => by have := Option.some.inj e; have := HBA.out; omega)); have W4 := Lib.hid (W3.out.grown g4 W3.out.size (fun g hg => by have := Option.some.inj hg; omega)); clear b4 g4 XA3 XB3 W3))
      rw [HZ0.out h00] at XB4 XA4
      have XA := XA4
      have XB := XB4
      have W3 := W4
      clear XA4 XB4 W4 h00' h00''
      rw [← HF0A.out] at XA
      rw [← HF0B.out] at XB
      rw [← HBB.out, ← HBA.out]
      go_loopw [7] (fun i wr => ∃ k : Nat, k ≤ n ∧ i = .int .i64 (k : Int) ∧ Below w.heap.size w wr ∧ ∃ ua qa ub qb, Blk wr bA 29 (ctc (FA k) (.slice ua (FA k).snaps.length qa)) ∧ wr.ownsRow (bB + 1) 60 34 (.slice ua (FA k).snaps.length qa) (FA k).snaps.length (sncs (FA k).snaps) ∧ Blk wr bB 29 (ctc (FB k) (.slice ub (FB k).snaps.length qb)) ∧ wr.ownsRow (bB + 1) 60 34 (.slice ub (FB k).snaps.length qb) (FB k).snaps.length (sncs (FB k).snaps)) (fun i _ => n - (intOf i).toNat)
      case atStart => exact ⟨0, Nat.zero_le _, rfl, W3.out, none, 0, none, 0, (by have h := XA.out; rw [HF0A.out] at h ⊢; exact h), (by rw [HF0A.out]; exact World.ownsRow_nil _ _ _ _), (by have h := XB.out; rw [HF0B.out] at h ⊢; exact h), (by rw [HF0B.out]; exact World.ownsRow_nil _ _ _ _)⟩
      case round =>
        obtain ⟨k, hk, rfl, hw, ua, qa, ub, qb, xa, va, xb, vb⟩ := hrel
        have W5 := Lib.hid hw
        have XA5 := Lib.hid xa
        have VA5 := Lib.hid va
        have XB5 := Lib.hid xb
        have VB5 := Lib.hid vb
        clear hw xa va xb vb XA XB W3
        by_cases hlt : k < n
        · have hkp : k < l0.length := by rw [← HN.out]; exact hlt
          obtain ⟨nb, no, hna, hck⟩ := HS.out.spot k hkp
          subst hna
          obtain ⟨j, hj⟩ : ∃ j, j = l0.length - 1 - k := ⟨_, rfl⟩
          have hjp : j < l0.length := by omega
          obtain ⟨nb', no', hnb, hcj⟩ := HS.out.spot j hjp
          cases hnb
          have CK := Lib.hid hck
          have CJ := Lib.hid hcj
          have HBL := Lib.hid (show bB + 1 ≤ wr.heap.size from XB5.out.lt)
          have HLT := Lib.hid (show (k : Int) < (n : Int) ∧ (0 : Int) ≤ (k : Int) by omega)
          have HJN := Lib.hid (show (j : Int) = (n : Int) - 1 - (k : Int) by have := HN.out; omega)
          have HLJ := Lib.hid (show (j : Int) < (n : Int) ∧ (0 : Int) ≤ (j : Int) by have := HN.out; omega)
          have HW1 := Lib.hid (show IntKind.i64.wrap ((n : Int) - 1) = (n : Int) - 1 by rw [IntKind.wrap_i64]; omega)
          have HW2 := Lib.hid (show IntKind.i64.wrap ((n : Int) - 1 - (k : Int)) = (j : Int) by rw [IntKind.wrap_i64]; have := HJN.out; omega)
          have HEAK := HEA.out k hkp
          have HEBK := HEB.out k (by rw [HRL.out]; exact hkp)
          have hrg := HRG.out k hkp
          rw [hrg] at HEBK
          have hjj : l0[l0.length - 1 - k]'(by omega) = l0[j] := by subst hj; rfl
          rw [hjj] at HEBK
          have hklt : (k : Int) < (n : Int) := HLT.out.1
          obtain ⟨nk, hnk⟩ : ∃ x, x = l0[k] := ⟨_, rfl⟩
          obtain ⟨nj, hnj⟩ : ∃ x, x = l0[j] := ⟨_, rfl⟩
          rw [← hnk] at HEAK CK
          rw [← hnj] at HEBK CJ
          have CKW := Lib.hid (fun w' (q : Below w.heap.size w w') => cell_below CK.out q)
          have CJW := Lib.hid (fun w' (q : Below w.heap.size w w') => cell_below CJ.out q)
          clear hck hcj hrg hjj hj CK CJ
          have hokA := (HOA.out k (by omega)).ok
          have hfwA := (HOA.out k (by omega)).few
          have HSNA := Lib.hid (fun W x => show Calls Try.prog 23 #[.agg (ctc (FA k) (.slice ua (FA k).snaps.length qa)).toArray, .string nk] W fun e w' => ∃ u, e = .returned (.tuple #[.agg (pc (CT.snap (FA k) nk).1.top ++ [u]).toArray, .int .i64 (CT.snap (FA k) nk).2]) ∧ w'.ownsRow W.heap.size 60 34 u (CT.snap (FA k) nk).1.snaps.length (sncs (CT.snap (FA k) nk).1.snaps) ∧ Below W.heap.size W w' from cpsnap_any (FA k) hokA nk (.slice ua (FA k).snaps.length qa) W x (by omega))
          have hroA := CT.snap_ok hokA nk
          have hSTA : FA (k + 1) = if (CT.snap (FA k) nk).2 = 0 then (CT.snap (FA k) nk).1 else FA k := HEAK
          obtain ⟨RA, hRA⟩ : ∃ x, x = (CT.snap (FA k) nk).1 := ⟨_, rfl⟩
          obtain ⟨EA, hEA⟩ : ∃ x, x = (CT.snap (FA k) nk).2 := ⟨_, rfl⟩
          rw [← hRA, ← hEA] at HSNA
          rw [← hRA] at hroA
          rw [← hRA, ← hEA] at hSTA
          have HSTA := Lib.hid hSTA
          have PAL := Lib.hid (fun u : Value => show (pc RA.top ++ [u]).length = 34 by rw [List.length_append, pc_len hroA.top]; rfl)
          have PAO := Lib.hid (fun (a : Option Addr) (n q : Nat) => show (pc RA.top ++ [Value.slice a n q]).toArray.all (·.oneCell') = true from ctc_all (c := ⟨RA.top, []⟩) rfl)
          have HCTA := Lib.hid (fun u : Value => show pc RA.top ++ [u] = ctc RA u from rfl)
          obtain ⟨PA, hPA⟩ : ∃ x, x = pc RA.top := ⟨_, rfl⟩
          rw [← hPA] at HSNA PAL PAO HCTA
          obtain ⟨NA, hNA⟩ : ∃ x, x = RA.snaps.length := ⟨_, rfl⟩
          obtain ⟨SA, hSA⟩ : ∃ x, x = sncs RA.snaps := ⟨_, rfl⟩
          rw [← hNA, ← hSA] at HSNA
          have HNA := Lib.hid hNA
          have HSA := Lib.hid hSA
          obtain ⟨LA, hLA⟩ : ∃ x, x = ctc (FA k) (.slice ua (FA k).snaps.length qa) := ⟨_, rfl⟩
          have LA34 := Lib.hid (show LA.length = 34 by rw [hLA]; exact ctc_len hokA.top _)
          have HLA := Lib.hid hLA
          rw [← hLA] at HSNA XA5
          clear hokA hfwA hroA hSTA hRA hEA hPA hNA hSA hLA
          have hokB := (HOB.out k (by rw [HRL.out]; omega)).ok
          have hfwB := (HOB.out k (by rw [HRL.out]; omega)).few
          have HSNB := Lib.hid (fun W x => show Calls Try.prog 23 #[.agg (ctc (FB k) (.slice ub (FB k).snaps.length qb)).toArray, .string nj] W fun e w' => ∃ u, e = .returned (.tuple #[.agg (pc (CT.snap (FB k) nj).1.top ++ [u]).toArray, .int .i64 (CT.snap (FB k) nj).2]) ∧ w'.ownsRow W.heap.size 60 34 u (CT.snap (FB k) nj).1.snaps.length (sncs (CT.snap (FB k) nj).1.snaps) ∧ Below W.heap.size W w' from cpsnap_any (FB k) hokB nj (.slice ub (FB k).snaps.length qb) W x (by omega))
          have hroB := CT.snap_ok hokB nj
          have hSTB : FB (k + 1) = if (CT.snap (FB k) nj).2 = 0 then (CT.snap (FB k) nj).1 else FB k := HEBK
          obtain ⟨RB, hRB⟩ : ∃ x, x = (CT.snap (FB k) nj).1 := ⟨_, rfl⟩
          obtain ⟨EB, hEB⟩ : ∃ x, x = (CT.snap (FB k) nj).2 := ⟨_, rfl⟩
          rw [← hRB, ← hEB] at HSNB
          rw [← hRB] at hroB
          rw [← hRB, ← hEB] at hSTB
          have HSTB := Lib.hid hSTB
          have PBL := Lib.hid (fun u : Value => show (pc RB.top ++ [u]).length = 34 by rw [List.length_append, pc_len hroB.top]; rfl)
          have PBO := Lib.hid (fun (a : Option Addr) (n q : Nat) => show (pc RB.top ++ [Value.slice a n q]).toArray.all (·.oneCell') = true from ctc_all (c := ⟨RB.top, []⟩) rfl)
          have HCTB := Lib.hid (fun u : Value => show pc RB.top ++ [u] = ctc RB u from rfl)
          obtain ⟨PB, hPB⟩ : ∃ x, x = pc RB.top := ⟨_, rfl⟩
          rw [← hPB] at HSNB PBL PBO HCTB
          obtain ⟨NB, hNB⟩ : ∃ x, x = RB.snaps.length := ⟨_, rfl⟩
          obtain ⟨SB, hSB⟩ : ∃ x, x = sncs RB.snaps := ⟨_, rfl⟩
          rw [← hNB, ← hSB] at HSNB
          have HNB := Lib.hid hNB
          have HSB := Lib.hid hSB
          obtain ⟨LB, hLB⟩ : ∃ x, x = ctc (FB k) (.slice ub (FB k).snaps.length qb) := ⟨_, rfl⟩
          have LB34 := Lib.hid (show LB.length = 34 by rw [hLB]; exact ctc_len hokB.top _)
          have HLB := Lib.hid hLB
          rw [← hLB] at HSNB XB5
          clear hokB hfwB hroB hSTB hRB hEB hPB hNB hSB hLB
          clear hnk hnj HEAK HEBK
          have HSN := HSNA
          have HSM := HSNB
          go_upto_region 9 with fail
          have XA := XA5
          have VA := Lib.hid (owned_rd VA5.out)
          have CK := Lib.hid (CKW.out _ W5.out)
          obtain ⟨wA, hwA⟩ : ∃ x, x = wr := ⟨_, rfl⟩
          rw [← hwA] at W5 XA XA5 VA VA5 XB5 VB5 CK HBL ⊢
          clear hwA
          refine wp_region_y (R := KindB 29) (by kernel_rfl) 12 (by decide) (fun i => [35, 36, 37, 38, 39, 40, 34, 41, 42, 8, 8, 9].getD i 0) (by kernel_rfl) (by kernel_rfl) (by kernel_rfl) wA.heap.size (Nat.le_refl _) [.val (.agg LA.toArray), .val (.slice (some ⟨nb, no, none⟩) n nq), .val (.int .i64 (k : Int)), .val (.pointer (some ⟨nb, no + k, none⟩)), .val (.string nk), .snIn (fun u => .tuple #[.agg (PA ++ [u]).toArray, .int .i64 EA]) NA SA, .snIn (fun u => .tuple #[.agg (PA ++ [u]).toArray, .int .i64 EA]) NA SA, .snIn (fun u => .agg (PA ++ [u]).toArray) NA SA, .val (.int .i64 EA), .blk 29 Z, .boxIn PA NA SA, .val (.int .i64 EA)] (fun j => if j = 9 then 10 else 12) ?_ ?_
          · refine ⟨?_, ?_, ?_, ?_, ?_, ?_, ?_, ?_, ?_, ?_, ?_, ?_, trivial⟩
            · intro a w' hF hB hd
              have e5 : a.eval (.tmp 5) = .pointer (some ⟨bA, 0, none⟩) := hF 5 (by decide +kernel)
              exact doesY_wp rfl (by decide) fun K' hK' => wp_load_mid 29 (.tmp 5) rfl bA 0 e5 LA _ (XA.out.below hB XA.out.lt).range Try.underlying29 rfl (by rw [LA34.out]; exact infoCtC) (hK' _ _ rfl (Below.refl _ _) (fun e => by cases e))
            · intro a w' hF hB hd
              have e0 : a.eval (.tmp 0) = .slice (some ⟨nb, no, none⟩) n nq := hF 0 (by decide +kernel)
              exact doesY_val rfl (by decide) (ex_move rfl e0) rfl rfl
            · intro a w' hF hB hd
              have e7 : a.eval (.tmp 7) = .int .i64 (k : Int) := hF 7 (by decide +kernel)
              exact doesY_val rfl (by decide) (ex_move rfl e7) rfl rfl
            · intro a w' hF hB hd
              have e36 : a.eval (.tmp 36) = .slice (some ⟨nb, no, none⟩) n nq := hd 1 (by decide +kernel) (.inr (by decide))
              have f36 : a.tmps[36]?.getD undef = .slice (some ⟨nb, no, none⟩) n nq := by rw [← Array.getD_eq_getD_getElem?]; exact e36
              have e37 : a.eval (.tmp 37) = .int .i64 (k : Int) := hd 2 (by decide +kernel) (.inr (by decide))
              have f37 : a.tmps[37]?.getD undef = .int .i64 (k : Int) := by rw [← Array.getD_eq_getD_getElem?]; exact e37
              have hkn := HLT.out.1
              have hk0 := HLT.out.2
              exact doesY_val (v := .pointer (some ⟨nb, no + k, none⟩)) rfl (by decide) (by unfold execOp; simp only [e36, e37]; go_simp) rfl rfl
            · intro a w' hF hB hd
              have e38 : a.eval (.tmp 38) = .pointer (some ⟨nb, no + k, none⟩) := hd 3 (by decide +kernel) (.inr (by decide))
              have cc := (cell_below CK.out hB)
              exact doesY_val (v := .string nk) rfl (by decide) (by unfold execOp; simp only [e38]; go_simp) rfl rfl
            · intro a w' hF hB hd
              have e35 : a.eval (.tmp 35) = .agg LA.toArray := hd 0 (by decide +kernel) (.inr (by decide))
              have e39 : a.eval (.tmp 39) = .string nk := hd 4 (by decide +kernel) (.inr (by decide))
              exact doesY_call rfl (by decide) (ex_call (vs := #[.agg LA.toArray, .string nk]) rfl (by simp only [List.map_toArray, List.map_cons, List.map_nil, e35, e39]) (by go_simp)) rfl ((HSN.out w' (VA.out.below hB)).mono fun e w2 hh => by obtain ⟨y, he, ho, hb⟩ := hh; exact ⟨_, he, ⟨y, rfl, ownT_lower ho hB.size⟩, hb⟩)
            · intro a w' hF hB hd
              obtain ⟨y, ey, oy⟩ : ∃ u : Value, a.eval (.tmp 40) = .tuple #[.agg (PA ++ [u]).toArray, .int .i64 EA] ∧ w'.ownsRow wA.heap.size 60 34 u NA SA := hd 5 (by decide +kernel) (.inr (by decide))
              exact doesY_val rfl (by decide) (ex_move rfl ey) ⟨y, rfl, oy⟩ rfl
            · intro a w' hF hB hd
              obtain ⟨y, ey, oy⟩ : ∃ u : Value, a.eval (.tmp 34) = .tuple #[.agg (PA ++ [u]).toArray, .int .i64 EA] ∧ w'.ownsRow wA.heap.size 60 34 u NA SA := hd 6 (by decide +kernel) (.inr (by decide))
              exact doesY_val (v := (fun u => .agg (PA ++ [u]).toArray) y) rfl (by decide) (by unfold execOp; simp only [ey]; go_simp) ⟨y, rfl, oy⟩ rfl
            · intro a w' hF hB hd
              obtain ⟨y, ey, oy⟩ : ∃ u : Value, a.eval (.tmp 34) = .tuple #[.agg (PA ++ [u]).toArray, .int .i64 EA] ∧ w'.ownsRow wA.heap.size 60 34 u NA SA := hd 6 (by decide +kernel) (.inr (by decide))
              exact doesY_val (v := .int .i64 EA) rfl (by decide) (by unfold execOp; simp only [ey]; go_simp) rfl rfl
            · intro a w' hF hB hd
              exact doesY_alloc rfl (by decide) 29 Z rfl hz hB.size rfl
            · intro a w' hF hB hd
              have e8 := hd 9 (by decide +kernel) (.inl (by decide))
              obtain ⟨y, ey, oy⟩ : ∃ u : Value, a.eval (.tmp 41) = .agg (PA ++ [u]).toArray ∧ w'.ownsRow wA.heap.size 60 34 u NA SA := hd 7 (by decide +kernel) (.inr (by decide))
              obtain ⟨ya, yc, rfl, _⟩ := (owned_rd oy).shape
              exact doesY_storeC rfl 8 (.tmp 41) rfl rfl 9 (by decide +kernel) (by decide) Z PA _ NA SA rfl rfl rfl e8 ey (by rw [PAL.out, Z34.out]) (by rw [PAL.out]; exact infoCtC) (PAO.out _ _ _) oy rfl
            · intro a w' hF hB hd
              have e42 : a.eval (.tmp 42) = .int .i64 EA := hd 8 (by decide +kernel) (.inr (by decide))
              exact doesY_val rfl (by decide) (ex_assign rfl e42) rfl rfl
          · intro vs w6 hB hS hv _
            obtain ⟨cx, ux, hvx, hcx, hbx, hox⟩ : ∃ (c : Nat) (u : Value), vs 10 = .pointer (some ⟨c, 0, none⟩) ∧ wA.heap.size ≤ c ∧ Blk w6 c 29 (PA ++ [u]) ∧ w6.ownsRow wA.heap.size 60 34 u NA SA := hv 10 (by decide) (by decide)
            have y3 : vs 9 = vs 10 := hS 9 10 rfl
            rw [hvx] at y3
            have y2 : vs 11 = .int .i64 EA := hv 11 (by decide) (by decide)
            obtain ⟨xa, xq, hsx, -⟩ := (owned_rd hox).shape
            subst hsx
            simp only [List.take_succ_cons, List.take_zero, List.drop_succ_cons, List.drop_zero, putOps, Act.put, List.setIfInBounds_toArray, List.set_cons_zero, List.set_cons_succ, y2, y3]
            have W6 := Lib.hid (W5.out.on hB)
            have XA6 := Lib.hid (XA5.out.below hB XA5.out.lt)
            have VA6 := Lib.hid (owned_below VA5.out hB)
            have XB6 := Lib.hid (XB5.out.below hB XB5.out.lt)
            have VB6 := Lib.hid (owned_below VB5.out hB)
            have BX := Lib.hid hbx
            have OX := Lib.hid (ownT_lower hox HBL.out)
            have HCX := Lib.hid (show bA < cx from Nat.lt_of_lt_of_le XA5.out.lt hcx)
            clear hv hvx hcx hbx hox y2 y3 hB hS XA VA XA5 VA5 XB5 VB5 CK W5
            by_cases hEA : EA = 0
            · have hFA : FA (k + 1) = RA := by rw [HSTA.out, if_pos hEA]
              subst hEA
              go_upto_region 12 with (first
                | ((with_reducible show wpList _ _ _ (Oper.mk (some 45) (.load _ _) _ _ _ _ :: _) _ _); refine wpList_load_mid rfl 29 (.tmp 8) rfl cx 0 rfl (PA ++ [.slice xa NA xq]) _ BX.out.range Try.underlying29 rfl (by rw [PAL.out]; exact infoCtC) ?_)
                | ((with_reducible show wpList _ _ _ (Oper.mk _ (.store _ (.tmp 5) (.tmp 45)) _ _ _ _ :: _) _ _); refine wpList_store_blk rfl 29 (.tmp 5) (.tmp 45) rfl bA 0 (PA ++ [.slice xa NA xq]) rfl rfl 29 LA XA6.out (by rw [PAL.out, LA34.out]; exact Nat.le_refl _) (by rw [PAL.out]; exact infoCtC) (PAO.out _ _ _) ?_; intro w7 b7 g7; rw [splice_all _ _ (by rw [PAL.out, LA34.out])] at b7; have xa7 := b7; have W7 := Lib.hid (W6.out.grown g7 W6.out.size (fun g hg => by have := Option.some.inj hg; have := HBA.out; omega)); have XB7 := Lib.hid (XB6.out.grown g7 (fun e => by have := Option.some.inj e; have := HBA.out; have := HBB.out; omega)); have VB7 := Lib.hid (World.ownsRow.kept VB6.out g7 (ne_res VB6.out (by have := HBA.out; have := HBB.out; omega))); have va7 := World.ownsRow.kept OX.out g7 (ne_res OX.out (by have := HBA.out; have := HBB.out; omega)); clear b7 g7))
              rw [HNA.out] at xa7 va7
              rw [HSA.out] at va7
              rw [HCTA.out, ← hFA] at xa7
              rw [← hFA] at va7
              have XA7 := Lib.hid xa7
              have VA7 := Lib.hid va7
              have XB := XB7
              have VB := Lib.hid (owned_rd VB7.out)
              have CJ := Lib.hid (CJW.out _ W7.out)
              obtain ⟨wB, hwB⟩ : ∃ x, x = w7 := ⟨_, rfl⟩
              clear xa7 va7 hFA XA6 VA6 XB6 VB6 BX OX HCX W6
              refine wp_region_y (R := KindB 29) (by kernel_rfl) 16 (by decide) (fun i => [47, 48, 49, 50, 51, 52, 53, 54, 55, 56, 46, 57, 58, 10, 10, 11].getD i 0) (by kernel_rfl) (by kernel_rfl) (by kernel_rfl) w7.heap.size (Nat.le_refl _) [.val (.agg LB.toArray), .val (.slice (some ⟨nb, no, none⟩) n nq), .val (.slice (some ⟨nb, no, none⟩) n nq), .val (.int .i64 (n : Int)), .val (.int .i64 ((n : Int) - 1)), .val (.int .i64 (k : Int)), .val (.int .i64 (j : Int)), .val (.pointer (some ⟨nb, no + j, none⟩)), .val (.string nj), .snIn (fun u => .tuple #[.agg (PB ++ [u]).toArray, .int .i64 EB]) NB SB, .snIn (fun u => .tuple #[.agg (PB ++ [u]).toArray, .int .i64 EB]) NB SB, .snIn (fun u => .agg (PB ++ [u]).toArray) NB SB, .val (.int .i64 EB), .blk 29 Z, .boxIn PB NB SB, .val (.int .i64 EB)] (fun j => if j = 13 then 14 else 16) ?_ ?_
              · refine ⟨?_, ?_, ?_, ?_, ?_, ?_, ?_, ?_, ?_, ?_, ?_, ?_, ?_, ?_, ?_, ?_, trivial⟩
                · intro a w' hF hB hd
                  have e6 : a.eval (.tmp 6) = .pointer (some ⟨bB, 0, none⟩) := hF 6 (by decide +kernel)
                  exact doesY_wp rfl (by decide) fun K' hK' => wp_load_mid 29 (.tmp 6) rfl bB 0 e6 LB _ (XB.out.below hB XB.out.lt).range Try.underlying29 rfl (by rw [LB34.out]; exact infoCtC) (hK' _ _ rfl (Below.refl _ _) (fun e => by cases e))
                · intro a w' hF hB hd
                  have e0 : a.eval (.tmp 0) = .slice (some ⟨nb, no, none⟩) n nq := hF 0 (by decide +kernel)
                  exact doesY_val rfl (by decide) (ex_move rfl e0) rfl rfl
                · intro a w' hF hB hd
                  have e0 : a.eval (.tmp 0) = .slice (some ⟨nb, no, none⟩) n nq := hF 0 (by decide +kernel)
                  exact doesY_val rfl (by decide) (ex_move rfl e0) rfl rfl
                · intro a w' hF hB hd
                  have e49 : a.eval (.tmp 49) = .slice (some ⟨nb, no, none⟩) n nq := hd 2 (by decide +kernel) (.inr (by decide))
                  have f49 : a.tmps[49]?.getD undef = .slice (some ⟨nb, no, none⟩) n nq := by rw [← Array.getD_eq_getD_getElem?]; exact e49
                  exact doesY_val (v := .int .i64 (n : Int)) rfl (by decide) (by unfold execOp; go_simp) rfl rfl
                · intro a w' hF hB hd
                  have e50 : a.eval (.tmp 50) = .int .i64 (n : Int) := hd 3 (by decide +kernel) (.inr (by decide))
                  exact doesY_val rfl (by decide) (ex_binOp rfl e50 rfl (by go_simp) (by have := HW1.out; go_simp)) rfl rfl
                · intro a w' hF hB hd
                  have e7 : a.eval (.tmp 7) = .int .i64 (k : Int) := hF 7 (by decide +kernel)
                  exact doesY_val rfl (by decide) (ex_move rfl e7) rfl rfl
                · intro a w' hF hB hd
                  have e51 : a.eval (.tmp 51) = .int .i64 ((n : Int) - 1) := hd 4 (by decide +kernel) (.inr (by decide))
                  have e52 : a.eval (.tmp 52) = .int .i64 (k : Int) := hd 5 (by decide +kernel) (.inr (by decide))
                  exact doesY_val rfl (by decide) (ex_binOp rfl e51 e52 (by go_simp) (by have := HW2.out; go_simp)) rfl rfl
                · intro a w' hF hB hd
                  have e48 : a.eval (.tmp 48) = .slice (some ⟨nb, no, none⟩) n nq := hd 1 (by decide +kernel) (.inr (by decide))
                  have f48 : a.tmps[48]?.getD undef = .slice (some ⟨nb, no, none⟩) n nq := by rw [← Array.getD_eq_getD_getElem?]; exact e48
                  have e53 : a.eval (.tmp 53) = .int .i64 (j : Int) := hd 6 (by decide +kernel) (.inr (by decide))
                  have f53 : a.tmps[53]?.getD undef = .int .i64 (j : Int) := by rw [← Array.getD_eq_getD_getElem?]; exact e53
                  have hjn := HLJ.out.1
                  have hj0 := HLJ.out.2
                  exact doesY_val (v := .pointer (some ⟨nb, no + j, none⟩)) rfl (by decide) (by unfold execOp; simp only [e48, e53]; go_simp) rfl rfl
                · intro a w' hF hB hd
                  have e54 : a.eval (.tmp 54) = .pointer (some ⟨nb, no + j, none⟩) := hd 7 (by decide +kernel) (.inr (by decide))
                  have cc := (cell_below CJ.out hB)
                  exact doesY_val (v := .string nj) rfl (by decide) (by unfold execOp; simp only [e54]; go_simp) rfl rfl
                · intro a w' hF hB hd
                  have e47 : a.eval (.tmp 47) = .agg LB.toArray := hd 0 (by decide +kernel) (.inr (by decide))
                  have e55 : a.eval (.tmp 55) = .string nj := hd 8 (by decide +kernel) (.inr (by decide))
                  exact doesY_call rfl (by decide) (ex_call (vs := #[.agg LB.toArray, .string nj]) rfl (by simp only [List.map_toArray, List.map_cons, List.map_nil, e47, e55]) (by go_simp)) rfl ((HSM.out w' (VB.out.below hB)).mono fun e w2 hh => by obtain ⟨y, he, ho, hb⟩ := hh; exact ⟨_, he, ⟨y, rfl, ownT_lower ho hB.size⟩, hb⟩)
                · intro a w' hF hB hd
                  obtain ⟨y, ey, oy⟩ : ∃ u : Value, a.eval (.tmp 56) = .tuple #[.agg (PB ++ [u]).toArray, .int .i64 EB] ∧ w'.ownsRow w7.heap.size 60 34 u NB SB := hd 9 (by decide +kernel) (.inr (by decide))
                  exact doesY_val rfl (by decide) (ex_move rfl ey) ⟨y, rfl, oy⟩ rfl
                · intro a w' hF hB hd
                  obtain ⟨y, ey, oy⟩ : ∃ u : Value, a.eval (.tmp 46) = .tuple #[.agg (PB ++ [u]).toArray, .int .i64 EB] ∧ w'.ownsRow w7.heap.size 60 34 u NB SB := hd 10 (by decide +kernel) (.inr (by decide))
                  exact doesY_val (v := (fun u => .agg (PB ++ [u]).toArray) y) rfl (by decide) (by unfold execOp; simp only [ey]; go_simp) ⟨y, rfl, oy⟩ rfl
                · intro a w' hF hB hd
                  obtain ⟨y, ey, oy⟩ : ∃ u : Value, a.eval (.tmp 46) = .tuple #[.agg (PB ++ [u]).toArray, .int .i64 EB] ∧ w'.ownsRow w7.heap.size 60 34 u NB SB := hd 10 (by decide +kernel) (.inr (by decide))
                  exact doesY_val (v := .int .i64 EB) rfl (by decide) (by unfold execOp; simp only [ey]; go_simp) rfl rfl
                · intro a w' hF hB hd
                  exact doesY_alloc rfl (by decide) 29 Z rfl hz hB.size rfl
                · intro a w' hF hB hd
                  have e10 := hd 13 (by decide +kernel) (.inl (by decide))
                  obtain ⟨y, ey, oy⟩ : ∃ u : Value, a.eval (.tmp 57) = .agg (PB ++ [u]).toArray ∧ w'.ownsRow w7.heap.size 60 34 u NB SB := hd 11 (by decide +kernel) (.inr (by decide))
                  obtain ⟨ya, yc, rfl, _⟩ := (owned_rd oy).shape
                  exact doesY_storeC rfl 10 (.tmp 57) rfl rfl 13 (by decide +kernel) (by decide) Z PB _ NB SB rfl rfl rfl e10 ey (by rw [PBL.out, Z34.out]) (by rw [PBL.out]; exact infoCtC) (PBO.out _ _ _) oy rfl
                · intro a w' hF hB hd
                  have e58 : a.eval (.tmp 58) = .int .i64 EB := hd 12 (by decide +kernel) (.inr (by decide))
                  exact doesY_val rfl (by decide) (ex_assign rfl e58) rfl rfl
              · intro vs w8 hB hS hv _
                obtain ⟨cx, ux, hvx, hcx, hbx, hox⟩ : ∃ (c : Nat) (u : Value), vs 14 = .pointer (some ⟨c, 0, none⟩) ∧ w7.heap.size ≤ c ∧ Blk w8 c 29 (PB ++ [u]) ∧ w8.ownsRow w7.heap.size 60 34 u NB SB := hv 14 (by decide) (by decide)
                have y3 : vs 13 = vs 14 := hS 13 14 rfl
                rw [hvx] at y3
                have y2 : vs 15 = .int .i64 EB := hv 15 (by decide) (by decide)
                obtain ⟨xa, xq, hsx, -⟩ := (owned_rd hox).shape
                subst hsx
                simp only [List.take_succ_cons, List.take_zero, List.drop_succ_cons, List.drop_zero, putOps, Act.put, List.setIfInBounds_toArray, List.set_cons_zero, List.set_cons_succ, y2, y3]
                have W8 := Lib.hid (W7.out.on hB)
                have XA8 := Lib.hid (XA7.out.below hB XA7.out.lt)
                have VA8 := Lib.hid (owned_below VA7.out hB)
                have XB8 := Lib.hid (XB7.out.below hB XB7.out.lt)
                have VB8 := Lib.hid (owned_below VB7.out hB)
                have BX := Lib.hid hbx
                have OX := Lib.hid (ownT_lower hox (show bB + 1 ≤ w7.heap.size from XB7.out.lt))
                have HCX := Lib.hid (show bB < cx from Nat.lt_of_lt_of_le XB7.out.lt hcx)
                clear hv hvx hcx hbx hox y2 y3 hB hS
                by_cases hEB : EB = 0
                · have hFB : FB (k + 1) = RB := by rw [HSTB.out, if_pos hEB]
                  subst hEB
                  go_wp2_with ((fail_if_success (with_reducible show bodyPost _ _ _ _ _ _)); first
                    | ((with_reducible show wpList _ _ _ (Oper.mk (some 61) (.load _ _) _ _ _ _ :: _) _ _); refine wpList_load_mid rfl 29 (.tmp 10) rfl cx 0 rfl (PB ++ [.slice xa NB xq]) _ BX.out.range Try.underlying29 rfl (by rw [PBL.out]; exact infoCtC) ?_)
                    | ((with_reducible show wpList _ _ _ (Oper.mk _ (.store _ (.tmp 6) (.tmp 61)) _ _ _ _ :: _) _ _); refine wpList_store_blk rfl 29 (.tmp 6) (.tmp 61) rfl bB 0 (PB ++ [.slice xa NB xq]) rfl rfl 29 LB XB8.out (by rw [PBL.out, LB34.out]; exact Nat.le_refl _) (by rw [PBL.out]; exact infoCtC) (PBO.out _ _ _) ?_; intro w9 b9 g9; rw [splice_all _ _ (by rw [PBL.out, LB34.out])] at b9; have XB9 := b9; have W9 := Lib.hid (W8.out.grown g9 W8.out.size (fun g hg => by have := Option.some.inj hg; have := HBB.out; omega)); have XA9 := Lib.hid (XA8.out.grown g9 (fun e => by have := Option.some.inj e; have := HBA.out; have := HBB.out; omega)); have VA9 := Lib.hid (World.ownsRow.kept VA8.out g9 (ne_res VA8.out (by omega))); have VB9 := World.ownsRow.kept OX.out g9 (ne_res OX.out (by omega)); clear b9))
                  rw [HNB.out] at XB9 VB9
                  rw [HSB.out] at VB9
                  rw [HCTB.out, ← hFB] at XB9
                  rw [← hFB] at VB9
                  exact ⟨⟨k + 1, by omega, by go_num, W9.out, _, _, _, _, XA9.out, VA9.out, XB9, VB9⟩, by simp [intOf]; omega⟩
                · have hFB : FB (k + 1) = FB k := by rw [HSTB.out, if_neg hEB]
                  have hE1 : (EB == 0) = false := by simpa using hEB
                  have XB9 := XB8.out
                  rw [HLB.out, ← hFB] at XB9
                  have VB9 := VB8.out
                  rw [← hFB] at VB9
                  have HX9 := Lib.hid XB9
                  have HV9 := Lib.hid VB9
                  clear XB9 VB9 hFB
                  go_wp2_with fail
                  exact ⟨⟨k + 1, by omega, by go_num, W8.out, _, _, _, _, XA8.out, VA8.out, HX9.out, HV9.out⟩, by simp [intOf]; omega⟩
            · have hFA : FA (k + 1) = FA k := by rw [HSTA.out, if_neg hEA]
              have hE1 : (EA == 0) = false := by simpa using hEA
              obtain ⟨w7, hw7⟩ : ∃ x, x = w6 := ⟨_, rfl⟩
              have xa7 := XA6.out
              have va7 := VA6.out
              rw [HLA.out, ← hFA] at xa7
              rw [← hFA] at va7
              have XA7 := Lib.hid xa7
              have VA7 := Lib.hid va7
              have XB7 := XB6
              have VB7 := VB6
              have W7 := W6
              go_upto_region 12 with fail
              have CJ := Lib.hid (CJW.out _ W7.out)
              rw [← hw7] at XA7 VA7 XB7 VB7 W7 CJ ⊢
              have XB := XB7
              have VB := Lib.hid (owned_rd VB7.out)
              clear xa7 va7 hFA XA6 VA6 XB6 VB6 BX OX HCX W6 hw7
              refine wp_region_y (R := KindB 29) (by kernel_rfl) 16 (by decide) (fun i => [47, 48, 49, 50, 51, 52, 53, 54, 55, 56, 46, 57, 58, 10, 10, 11].getD i 0) (by kernel_rfl) (by kernel_rfl) (by kernel_rfl) w7.heap.size (Nat.le_refl _) [.val (.agg LB.toArray), .val (.slice (some ⟨nb, no, none⟩) n nq), .val (.slice (some ⟨nb, no, none⟩) n nq), .val (.int .i64 (n : Int)), .val (.int .i64 ((n : Int) - 1)), .val (.int .i64 (k : Int)), .val (.int .i64 (j : Int)), .val (.pointer (some ⟨nb, no + j, none⟩)), .val (.string nj), .snIn (fun u => .tuple #[.agg (PB ++ [u]).toArray, .int .i64 EB]) NB SB, .snIn (fun u => .tuple #[.agg (PB ++ [u]).toArray, .int .i64 EB]) NB SB, .snIn (fun u => .agg (PB ++ [u]).toArray) NB SB, .val (.int .i64 EB), .blk 29 Z, .boxIn PB NB SB, .val (.int .i64 EB)] (fun j => if j = 13 then 14 else 16) ?_ ?_
              · refine ⟨?_, ?_, ?_, ?_, ?_, ?_, ?_, ?_, ?_, ?_, ?_, ?_, ?_, ?_, ?_, ?_, trivial⟩
                · intro a w' hF hB hd
                  have e6 : a.eval (.tmp 6) = .pointer (some ⟨bB, 0, none⟩) := hF 6 (by decide +kernel)
                  exact doesY_wp rfl (by decide) fun K' hK' => wp_load_mid 29 (.tmp 6) rfl bB 0 e6 LB _ (XB.out.below hB XB.out.lt).range Try.underlying29 rfl (by rw [LB34.out]; exact infoCtC) (hK' _ _ rfl (Below.refl _ _) (fun e => by cases e))
                · intro a w' hF hB hd
                  have e0 : a.eval (.tmp 0) = .slice (some ⟨nb, no, none⟩) n nq := hF 0 (by decide +kernel)
                  exact doesY_val rfl (by decide) (ex_move rfl e0) rfl rfl
                · intro a w' hF hB hd
                  have e0 : a.eval (.tmp 0) = .slice (some ⟨nb, no, none⟩) n nq := hF 0 (by decide +kernel)
                  exact doesY_val rfl (by decide) (ex_move rfl e0) rfl rfl
                · intro a w' hF hB hd
                  have e49 : a.eval (.tmp 49) = .slice (some ⟨nb, no, none⟩) n nq := hd 2 (by decide +kernel) (.inr (by decide))
                  have f49 : a.tmps[49]?.getD undef = .slice (some ⟨nb, no, none⟩) n nq := by rw [← Array.getD_eq_getD_getElem?]; exact e49
                  exact doesY_val (v := .int .i64 (n : Int)) rfl (by decide) (by unfold execOp; go_simp) rfl rfl
                · intro a w' hF hB hd
                  have e50 : a.eval (.tmp 50) = .int .i64 (n : Int) := hd 3 (by decide +kernel) (.inr (by decide))
                  exact doesY_val rfl (by decide) (ex_binOp rfl e50 rfl (by go_simp) (by have := HW1.out; go_simp)) rfl rfl
                · intro a w' hF hB hd
                  have e7 : a.eval (.tmp 7) = .int .i64 (k : Int) := hF 7 (by decide +kernel)
                  exact doesY_val rfl (by decide) (ex_move rfl e7) rfl rfl
                · intro a w' hF hB hd
                  have e51 : a.eval (.tmp 51) = .int .i64 ((n : Int) - 1) := hd 4 (by decide +kernel) (.inr (by decide))
                  have e52 : a.eval (.tmp 52) = .int .i64 (k : Int) := hd 5 (by decide +kernel) (.inr (by decide))
                  exact doesY_val rfl (by decide) (ex_binOp rfl e51 e52 (by go_simp) (by have := HW2.out; go_simp)) rfl rfl
                · intro a w' hF hB hd
                  have e48 : a.eval (.tmp 48) = .slice (some ⟨nb, no, none⟩) n nq := hd 1 (by decide +kernel) (.inr (by decide))
                  have f48 : a.tmps[48]?.getD undef = .slice (some ⟨nb, no, none⟩) n nq := by rw [← Array.getD_eq_getD_getElem?]; exact e48
                  have e53 : a.eval (.tmp 53) = .int .i64 (j : Int) := hd 6 (by decide +kernel) (.inr (by decide))
                  have f53 : a.tmps[53]?.getD undef = .int .i64 (j : Int) := by rw [← Array.getD_eq_getD_getElem?]; exact e53
                  have hjn := HLJ.out.1
                  have hj0 := HLJ.out.2
                  exact doesY_val (v := .pointer (some ⟨nb, no + j, none⟩)) rfl (by decide) (by unfold execOp; simp only [e48, e53]; go_simp) rfl rfl
                · intro a w' hF hB hd
                  have e54 : a.eval (.tmp 54) = .pointer (some ⟨nb, no + j, none⟩) := hd 7 (by decide +kernel) (.inr (by decide))
                  have cc := (cell_below CJ.out hB)
                  exact doesY_val (v := .string nj) rfl (by decide) (by unfold execOp; simp only [e54]; go_simp) rfl rfl
                · intro a w' hF hB hd
                  have e47 : a.eval (.tmp 47) = .agg LB.toArray := hd 0 (by decide +kernel) (.inr (by decide))
                  have e55 : a.eval (.tmp 55) = .string nj := hd 8 (by decide +kernel) (.inr (by decide))
                  exact doesY_call rfl (by decide) (ex_call (vs := #[.agg LB.toArray, .string nj]) rfl (by simp only [List.map_toArray, List.map_cons, List.map_nil, e47, e55]) (by go_simp)) rfl ((HSM.out w' (VB.out.below hB)).mono fun e w2 hh => by obtain ⟨y, he, ho, hb⟩ := hh; exact ⟨_, he, ⟨y, rfl, ownT_lower ho hB.size⟩, hb⟩)
                · intro a w' hF hB hd
                  obtain ⟨y, ey, oy⟩ : ∃ u : Value, a.eval (.tmp 56) = .tuple #[.agg (PB ++ [u]).toArray, .int .i64 EB] ∧ w'.ownsRow w7.heap.size 60 34 u NB SB := hd 9 (by decide +kernel) (.inr (by decide))
                  exact doesY_val rfl (by decide) (ex_move rfl ey) ⟨y, rfl, oy⟩ rfl
                · intro a w' hF hB hd
                  obtain ⟨y, ey, oy⟩ : ∃ u : Value, a.eval (.tmp 46) = .tuple #[.agg (PB ++ [u]).toArray, .int .i64 EB] ∧ w'.ownsRow w7.heap.size 60 34 u NB SB := hd 10 (by decide +kernel) (.inr (by decide))
                  exact doesY_val (v := (fun u => .agg (PB ++ [u]).toArray) y) rfl (by decide) (by unfold execOp; simp only [ey]; go_simp) ⟨y, rfl, oy⟩ rfl
                · intro a w' hF hB hd
                  obtain ⟨y, ey, oy⟩ : ∃ u : Value, a.eval (.tmp 46) = .tuple #[.agg (PB ++ [u]).toArray, .int .i64 EB] ∧ w'.ownsRow w7.heap.size 60 34 u NB SB := hd 10 (by decide +kernel) (.inr (by decide))
                  exact doesY_val (v := .int .i64 EB) rfl (by decide) (by unfold execOp; simp only [ey]; go_simp) rfl rfl
                · intro a w' hF hB hd
                  exact doesY_alloc rfl (by decide) 29 Z rfl hz hB.size rfl
                · intro a w' hF hB hd
                  have e10 := hd 13 (by decide +kernel) (.inl (by decide))
                  obtain ⟨y, ey, oy⟩ : ∃ u : Value, a.eval (.tmp 57) = .agg (PB ++ [u]).toArray ∧ w'.ownsRow w7.heap.size 60 34 u NB SB := hd 11 (by decide +kernel) (.inr (by decide))
                  obtain ⟨ya, yc, rfl, _⟩ := (owned_rd oy).shape
                  exact doesY_storeC rfl 10 (.tmp 57) rfl rfl 13 (by decide +kernel) (by decide) Z PB _ NB SB rfl rfl rfl e10 ey (by rw [PBL.out, Z34.out]) (by rw [PBL.out]; exact infoCtC) (PBO.out _ _ _) oy rfl
                · intro a w' hF hB hd
                  have e58 : a.eval (.tmp 58) = .int .i64 EB := hd 12 (by decide +kernel) (.inr (by decide))
                  exact doesY_val rfl (by decide) (ex_assign rfl e58) rfl rfl
              · intro vs w8 hB hS hv _
                obtain ⟨cx, ux, hvx, hcx, hbx, hox⟩ : ∃ (c : Nat) (u : Value), vs 14 = .pointer (some ⟨c, 0, none⟩) ∧ w7.heap.size ≤ c ∧ Blk w8 c 29 (PB ++ [u]) ∧ w8.ownsRow w7.heap.size 60 34 u NB SB := hv 14 (by decide) (by decide)
                have y3 : vs 13 = vs 14 := hS 13 14 rfl
                rw [hvx] at y3
                have y2 : vs 15 = .int .i64 EB := hv 15 (by decide) (by decide)
                obtain ⟨xa, xq, hsx, -⟩ := (owned_rd hox).shape
                subst hsx
                simp only [List.take_succ_cons, List.take_zero, List.drop_succ_cons, List.drop_zero, putOps, Act.put, List.setIfInBounds_toArray, List.set_cons_zero, List.set_cons_succ, y2, y3]
                have W8 := Lib.hid (W7.out.on hB)
                have XA8 := Lib.hid (XA7.out.below hB XA7.out.lt)
                have VA8 := Lib.hid (owned_below VA7.out hB)
                have XB8 := Lib.hid (XB7.out.below hB XB7.out.lt)
                have VB8 := Lib.hid (owned_below VB7.out hB)
                have BX := Lib.hid hbx
                have OX := Lib.hid (ownT_lower hox (show bB + 1 ≤ w7.heap.size from XB7.out.lt))
                have HCX := Lib.hid (show bB < cx from Nat.lt_of_lt_of_le XB7.out.lt hcx)
                clear hv hvx hcx hbx hox y2 y3 hB hS
                by_cases hEB : EB = 0
                · have hFB : FB (k + 1) = RB := by rw [HSTB.out, if_pos hEB]
                  subst hEB
                  go_wp2_with ((fail_if_success (with_reducible show bodyPost _ _ _ _ _ _)); first
                    | ((with_reducible show wpList _ _ _ (Oper.mk (some 61) (.load _ _) _ _ _ _ :: _) _ _); refine wpList_load_mid rfl 29 (.tmp 10) rfl cx 0 rfl (PB ++ [.slice xa NB xq]) _ BX.out.range Try.underlying29 rfl (by rw [PBL.out]; exact infoCtC) ?_)
                    | ((with_reducible show wpList _ _ _ (Oper.mk _ (.store _ (.tmp 6) (.tmp 61)) _ _ _ _ :: _) _ _); refine wpList_store_blk rfl 29 (.tmp 6) (.tmp 61) rfl bB 0 (PB ++ [.slice xa NB xq]) rfl rfl 29 LB XB8.out (by rw [PBL.out, LB34.out]; exact Nat.le_refl _) (by rw [PBL.out]; exact infoCtC) (PBO.out _ _ _) ?_; intro w9 b9 g9; rw [splice_all _ _ (by rw [PBL.out, LB34.out])] at b9; have XB9 := b9; have W9 := Lib.hid (W8.out.grown g9 W8.out.size (fun g hg => by have := Option.some.inj hg; have := HBB.out; omega)); have XA9 := Lib.hid (XA8.out.grown g9 (fun e => by have := Option.some.inj e; have := HBA.out; have := HBB.out; omega)); have VA9 := Lib.hid (World.ownsRow.kept VA8.out g9 (ne_res VA8.out (by omega))); have VB9 := World.ownsRow.kept OX.out g9 (ne_res OX.out (by omega)); clear b9))
                  rw [HNB.out] at XB9 VB9
                  rw [HSB.out] at VB9
                  rw [HCTB.out, ← hFB] at XB9
                  rw [← hFB] at VB9
                  exact ⟨⟨k + 1, by omega, by go_num, W9.out, _, _, _, _, XA9.out, VA9.out, XB9, VB9⟩, by simp [intOf]; omega⟩
                · have hFB : FB (k + 1) = FB k := by rw [HSTB.out, if_neg hEB]
                  have hE1 : (EB == 0) = false := by simpa using hEB
                  have XB9 := XB8.out
                  rw [HLB.out, ← hFB] at XB9
                  have VB9 := VB8.out
                  rw [← hFB] at VB9
                  have HX9 := Lib.hid XB9
                  have HV9 := Lib.hid VB9
                  clear XB9 VB9 hFB
                  go_wp2_with fail
                  exact ⟨⟨k + 1, by omega, by go_num, W8.out, _, _, _, _, XA8.out, VA8.out, HX9.out, HV9.out⟩, by simp [intOf]; omega⟩
        · obtain rfl : k = n := by omega
          have hkk : ¬ (k : Int) < (k : Int) := by omega
          have hFF : FB k = FA k := by have h := HRV.out; rw [← HN.out] at h; exact h
          have xa := XA5.out
          have va := owned_rd VA5.out
          have xb := XB5.out
          have vb := owned_rd VB5.out
          rw [hFF] at xb vb
          have hof := HOA.out k (by rw [← HN.out]; exact Nat.le_refl _)
          have hok := hof.ok
          have hck := hof.chk
          have hfw := hof.few
          clear hof hFF
          obtain ⟨C, hC⟩ : ∃ C, C = FA k := ⟨_, rfl⟩
          rw [← hC] at xa va xb vb hok hck hfw
          clear hC
          have hpr := (rises_pair.1 (check_zero.1 hck).2.1).2
          have HNM := Lib.hid (fun W x => pnames_any C hok (.slice ua C.snaps.length qa) W x (by omega))
          have HCK := Lib.hid (fun W x => show Calls Try.prog 15 #[.agg (ctc C (.slice ua C.snaps.length qa)).toArray] W fun e w' => e = .returned (.int .i64 0) ∧ Below W.heap.size W w' by
            have q := pccheck_any C hok (.slice ua C.snaps.length qa) W x (by omega)
            rw [hck] at q
            exact q)
          have HSM := Lib.hid (fun W x y => show Calls Try.prog 22 #[.agg (ctc C (.slice ua C.snaps.length qa)).toArray, .agg (ctc C (.slice ub C.snaps.length qb)).toArray] W fun e w' => e = .returned (.bool true) ∧ Below W.heap.size W w' by
            have q := psame_any C C hok hok (.slice ua C.snaps.length qa) (.slice ub C.snaps.length qb) W x y (by omega)
            rw [ctEq_iff.2 rfl] at q
            exact q)
          obtain ⟨NS, hNS⟩ : ∃ x, x = C.snaps.map Sn.name := ⟨_, rfl⟩
          have HRI := Lib.hid (fun (i : Nat) (h : i + 1 < NS.length) => show nlt NS[i] NS[i + 1] = true by
            subst hNS
            rw [List.getElem_map, List.getElem_map]
            exact List.pairwise_iff_getElem.1 hpr i (i + 1) (by simp at h; omega) (by simpa using h) (by omega))
          have HNL := Lib.hid (show NS.length ≤ 20 by rw [hNS, List.length_map]; omega)
          rw [← hNS] at HNM
          obtain ⟨L1, hL1⟩ : ∃ x, x = ctc C (.slice ua C.snaps.length qa) := ⟨_, rfl⟩
          obtain ⟨L2, hL2⟩ : ∃ x, x = ctc C (.slice ub C.snaps.length qb) := ⟨_, rfl⟩
          have L134 := Lib.hid (show L1.length = 34 by rw [hL1]; exact ctc_len hok.top _)
          have L234 := Lib.hid (show L2.length = 34 by rw [hL2]; exact ctc_len hok.top _)
          rw [← hL1] at HNM HCK xa
          rw [← hL1, ← hL2] at HSM
          rw [← hL2] at xb
          obtain ⟨nC, hnC⟩ : ∃ x, x = C.snaps.length := ⟨_, rfl⟩
          obtain ⟨sC, hsC⟩ : ∃ x, x = sncs C.snaps := ⟨_, rfl⟩
          rw [← hnC, ← hsC] at va vb HNM HCK HSM
          have XA := Lib.hid xa
          have VA := Lib.hid va
          have XB := Lib.hid xb
          have VB := Lib.hid vb
          clear hok hck hfw hpr hNS hL1 hL2 hnC hsC xa va xb vb XA5 XB5 VA5 VB5
          obtain ⟨ML, hML⟩ : ∃ x, x = NS.length := ⟨_, rfl⟩
          have HML := Lib.hid hML
          clear hML
          go_wp2_with ((fail_if_success (with_reducible show bodyPost _ _ _ _ _ _)); first
            | ((with_reducible show wpList _ _ _ (Oper.mk (some 62) (.load _ _) _ _ _ _ :: _) _ _); refine wpList_load_mid rfl 29 (.tmp 5) rfl bA 0 rfl L1 _ XA.out.range Try.underlying29 rfl (by rw [L134.out]; exact infoCtC) ?_)
            | (go_at_call 33; (with_reducible refine (HNM.out _ VA.out).mono ?_); rintro e w6 ⟨uN, rfl, hs6, b6⟩; obtain ⟨na6, nq6, hu6, -⟩ := hs6.shape; rw [← HML.out] at hu6; subst hu6; have S6 := Lib.hid hs6; have W6 := Lib.hid (W5.out.on b6); have XA6 := Lib.hid (XA.out.below b6 XA.out.lt); have XB6 := Lib.hid (XB.out.below b6 XB.out.lt); have VA6 := Lib.hid (VA.out.below b6); have VB6 := Lib.hid (VB.out.below b6); clear b6 hs6 XA XB VA VB W5))
          go_loopw [13] (fun i wr => ∃ m : Nat, 1 ≤ m ∧ i = .int .i64 (m : Int) ∧ Below w6.heap.size w6 wr) (fun i _ => ML + 1 - (intOf i).toNat)
          case atStart => exact ⟨1, Nat.le_refl _, rfl, Below.refl _ _⟩
          case round =>
            obtain ⟨m, hm1, rfl, hw7⟩ := hrel
            have W7 := Lib.hid (W6.out.on hw7)
            have XA7 := Lib.hid (XA6.out.below hw7 XA6.out.lt)
            have XB7 := Lib.hid (XB6.out.below hw7 XB6.out.lt)
            have VA7 := Lib.hid (VA6.out.below hw7)
            have VB7 := Lib.hid (VB6.out.below hw7)
            by_cases hlm : m < ML
            · have hm20 : m ≤ 20 := by have := HML.out; have := HNL.out; omega
              have hmp : m < NS.length := by rw [← HML.out]; exact hlm
              have s7 := S6.out.below hw7
              obtain ⟨sb, so, hna, hcm⟩ := s7.spot m hmp
              subst hna
              obtain ⟨sb', so', hnb, hcl⟩ := s7.spot (m - 1) (by omega)
              cases hnb
              have hri := HRI.out (m - 1) (by omega)
              have hcl' : NS[m - 1 + 1]'(by omega) = NS[m] := by congr 1; omega
              rw [hcl'] at hri
              obtain ⟨n1, hn1⟩ : ∃ x, x = NS[m] := ⟨_, rfl⟩
              obtain ⟨n2, hn2⟩ : ∃ x, x = NS[m - 1] := ⟨_, rfl⟩
              rw [← hn1] at hcm hri
              rw [← hn2] at hcl hri
              have CM := Lib.hid hcm
              have CL := Lib.hid hcl
              have HLQ := Lib.hid (fun W => show (binOp .leq 9 (.string n1) (.string n2)).run Try.prog W = .ok (.bool false) W by rw [run_str_leq, hri]; rfl)
              obtain ⟨m1, hm1'⟩ : ∃ x, x = m - 1 := ⟨_, rfl⟩
              have hmi : (m1 : Int) = (m : Int) - 1 := by omega
              have HW3 := Lib.hid (show IntKind.i64.wrap ((m : Int) - 1) = (m1 : Int) by rw [IntKind.wrap_i64]; omega)
              have HM1 := Lib.hid (show (m1 : Int) < (ML : Int) ∧ (0 : Int) ≤ (m1 : Int) by omega)
              have HM0 := Lib.hid (show (m : Int) < (ML : Int) ∧ (0 : Int) ≤ (m : Int) by omega)
              have hlm' : (m : Int) < (ML : Int) := HM0.out.1
              rw [← hm1'] at CL
              have HW8 := Lib.hid hw7
              clear s7 hcm hcl hcl' hri hn1 hn2 hm1' hmi hw7 hkk
              go_upto_region 19 with fail
              refine wp_region_y (R := KindB 29) (by kernel_rfl) 10 (by decide) (fun i => [70, 71, 72, 73, 74, 75, 76, 77, 78, 79].getD i 0) (by kernel_rfl) (by kernel_rfl) (by kernel_rfl) wr.heap.size (Nat.le_refl _) [.val (.slice (some ⟨sb, so, none⟩) ML nq6), .val (.int .i64 (m : Int)), .val (.pointer (some ⟨sb, so + m, none⟩)), .val (.string n1), .val (.slice (some ⟨sb, so, none⟩) ML nq6), .val (.int .i64 (m : Int)), .val (.int .i64 (m1 : Int)), .val (.pointer (some ⟨sb, so + m1, none⟩)), .val (.string n2), .val (.bool false)] (fun j => if j = 10 then 11 else 10) ?_ ?_
              · refine ⟨?_, ?_, ?_, ?_, ?_, ?_, ?_, ?_, ?_, ?_, trivial⟩
                · intro a w' hF hB hd
                  have e12 : a.eval (.tmp 12) = .slice (some ⟨sb, so, none⟩) ML nq6 := hF 12 (by decide +kernel)
                  exact doesY_val rfl (by decide) (ex_move rfl e12) rfl rfl
                · intro a w' hF hB hd
                  have e13 : a.eval (.tmp 13) = .int .i64 (m : Int) := hF 13 (by decide +kernel)
                  exact doesY_val rfl (by decide) (ex_move rfl e13) rfl rfl
                · intro a w' hF hB hd
                  have e70 : a.eval (.tmp 70) = .slice (some ⟨sb, so, none⟩) ML nq6 := hd 0 (by decide +kernel) (.inr (by decide))
                  have f70 : a.tmps[70]?.getD undef = .slice (some ⟨sb, so, none⟩) ML nq6 := by rw [← Array.getD_eq_getD_getElem?]; exact e70
                  have e71 : a.eval (.tmp 71) = .int .i64 (m : Int) := hd 1 (by decide +kernel) (.inr (by decide))
                  have f71 : a.tmps[71]?.getD undef = .int .i64 (m : Int) := by rw [← Array.getD_eq_getD_getElem?]; exact e71
                  have hkn := HM0.out.1
                  have hk0 := HM0.out.2
                  exact doesY_val (v := .pointer (some ⟨sb, so + m, none⟩)) rfl (by decide) (by unfold execOp; simp only [e70, e71]; go_simp) rfl rfl
                · intro a w' hF hB hd
                  have e72 : a.eval (.tmp 72) = .pointer (some ⟨sb, so + m, none⟩) := hd 2 (by decide +kernel) (.inr (by decide))
                  have cc := (cell_below CM.out hB)
                  exact doesY_val (v := .string n1) rfl (by decide) (by unfold execOp; simp only [e72]; go_simp) rfl rfl
                · intro a w' hF hB hd
                  have e12 : a.eval (.tmp 12) = .slice (some ⟨sb, so, none⟩) ML nq6 := hF 12 (by decide +kernel)
                  exact doesY_val rfl (by decide) (ex_move rfl e12) rfl rfl
                · intro a w' hF hB hd
                  have e13 : a.eval (.tmp 13) = .int .i64 (m : Int) := hF 13 (by decide +kernel)
                  exact doesY_val rfl (by decide) (ex_move rfl e13) rfl rfl
                · intro a w' hF hB hd
                  have e75 : a.eval (.tmp 75) = .int .i64 (m : Int) := hd 5 (by decide +kernel) (.inr (by decide))
                  exact doesY_val rfl (by decide) (ex_binOp rfl e75 rfl (by go_simp) (by have := HW3.out; go_simp)) rfl rfl
                · intro a w' hF hB hd
                  have e74 : a.eval (.tmp 74) = .slice (some ⟨sb, so, none⟩) ML nq6 := hd 4 (by decide +kernel) (.inr (by decide))
                  have f74 : a.tmps[74]?.getD undef = .slice (some ⟨sb, so, none⟩) ML nq6 := by rw [← Array.getD_eq_getD_getElem?]; exact e74
                  have e76 : a.eval (.tmp 76) = .int .i64 (m1 : Int) := hd 6 (by decide +kernel) (.inr (by decide))
                  have f76 : a.tmps[76]?.getD undef = .int .i64 (m1 : Int) := by rw [← Array.getD_eq_getD_getElem?]; exact e76
                  have hkn := HM1.out.1
                  have hk0 := HM1.out.2
                  exact doesY_val (v := .pointer (some ⟨sb, so + m1, none⟩)) rfl (by decide) (by unfold execOp; simp only [e74, e76]; go_simp) rfl rfl
                · intro a w' hF hB hd
                  have e77 : a.eval (.tmp 77) = .pointer (some ⟨sb, so + m1, none⟩) := hd 7 (by decide +kernel) (.inr (by decide))
                  have cc := (cell_below CL.out hB)
                  exact doesY_val (v := .string n2) rfl (by decide) (by unfold execOp; simp only [e77]; go_simp) rfl rfl
                · intro a w' hF hB hd
                  have e73 : a.eval (.tmp 73) = .string n1 := hd 3 (by decide +kernel) (.inr (by decide))
                  have e78 : a.eval (.tmp 78) = .string n2 := hd 8 (by decide +kernel) (.inr (by decide))
                  exact doesY_val rfl (by decide) (ex_binOp rfl e73 e78 (eqG_str _ _ _ _ _ _) (HLQ.out _)) rfl rfl
              · intro vs w8 hB hS hv _
                have y9 : vs 9 = .bool false := hv 9 (by decide) (by decide)
                simp only [List.take_succ_cons, List.take_zero, List.drop_succ_cons, List.drop_zero, putOps, Act.put, List.setIfInBounds_toArray, List.set_cons_zero, List.set_cons_succ, y9]
                have W9 := Lib.hid (HW8.out.on hB)
                clear hv hB hS y9
                go_wp2_with fail
                exact ⟨⟨m + 1, by omega, by go_num, W9.out⟩, by simp [intOf]; omega⟩
            · have hlm' : ¬ (m : Int) < (ML : Int) := by omega
              clear hw7 hkk
              go_wp2_with ((fail_if_success (with_reducible show bodyPost _ _ _ _ _ _)); first
                | ((with_reducible show wpList _ _ _ (Oper.mk (some 80) (.load _ _) _ _ _ _ :: _) _ _); refine wpList_load_mid rfl 29 (.tmp 5) rfl bA 0 rfl L1 _ XA7.out.range Try.underlying29 rfl (by rw [L134.out]; exact infoCtC) ?_)
                | ((with_reducible show wpList _ _ _ (Oper.mk (some 81) (.load _ _) _ _ _ _ :: _) _ _); refine wpList_load_mid rfl 29 (.tmp 6) rfl bB 0 rfl L2 _ XB7.out.range Try.underlying29 rfl (by rw [L234.out]; exact infoCtC) ?_)
                | (go_at_call 22; (with_reducible refine (HSM.out _ VA7.out VB7.out).mono ?_); rintro e w8 ⟨rfl, b8⟩; have W8 := Lib.hid (W7.out.on b8); have XA8 := Lib.hid (XA7.out.below b8 XA7.out.lt); have VA8 := Lib.hid (VA7.out.below b8); clear b8)
                | ((with_reducible show wpList _ _ _ (Oper.mk (some 84) (.load _ _) _ _ _ _ :: _) _ _); refine wpList_load_wanted rfl 29 (.tmp 5) rfl bA 0 rfl L1 _ XA8.out.range Try.underlying29 rfl (by rw [L134.out]; exact infoCtC) ?_)
                | (go_at_call 15; (with_reducible refine (HCK.out _ VA8.out).mono ?_); rintro e w9 ⟨rfl, b9⟩; have W9 := Lib.hid (W8.out.on b9); clear b9)
                | (go_at_call 11; (with_reducible refine (HAW.out _).mono ?_); rintro e w3 ⟨rfl, b3⟩; have W3 := Lib.hid (W9.out.on b3); clear b3))
              go_ret
              exact ⟨rfl, W3.out⟩

    · have h00' : ((at_ : Int) == 0) = false := by simpa using h00
      have h00'' : ¬ (at_ : Int) = 0 := by omega
      go_enter Try.func9, Try.ntmps9
      go_wp2_with ((fail_if_success (with_reducible show bodyPost _ _ _ _ _ _)); first
        | ((with_reducible show wpList _ _ _ (Oper.mk (some 18) (.build _ _) _ _ _ _ :: _) _ _); refine wpList_wanted rfl (.agg Z.toArray) (ex_buildN rfl hbr) ?_)
        | ((with_reducible show wpList _ _ _ (Oper.mk (some 19) (.build _ _) _ _ _ _ :: _) _ _); refine wpList_wanted rfl (.agg Z.toArray) (ex_buildN rfl hbr) ?_)
        | ((with_reducible show wpList _ _ _ (Oper.mk _ (.store _ (.tmp 5) (.tmp 18)) _ _ _ _ :: _) _ _); refine wpList_store_blk rfl 29 (.tmp 5) (.tmp 18) rfl w.heap.size 0 Z rfl rfl 29 Z ((Blk.new w 29 Z _ rfl).alloc (.cells Z.toArray 29)) (by rw [Z34.out]; exact Nat.le_refl _) (by rw [Z34.out]; exact infoCtC) ZO.out ?_; intro w3 b3 g3; rw [splice_all _ _ rfl, ← HBA.out] at b3; have XA3 := Lib.hid b3; have XB3 := Lib.hid ((Blk.new (w.alloc (.cells Z.toArray 29)) 29 Z (w.heap.size + 1) (by simp)).grown g3 (fun e => by have := Option.some.inj e; omega)); have W3 := Lib.hid ((((Below.refl w.heap.size w).alloc (Nat.le_refl _) (.cells Z.toArray 29)).alloc (by simp) (.cells Z.toArray 29)).grown g3 (by simp; omega) (fun g hg => Nat.le_of_eq (Option.some.inj hg))); clear b3 g3)
        | ((with_reducible show wpList _ _ _ (Oper.mk _ (.store _ (.tmp 6) (.tmp 19)) _ _ _ _ :: _) _ _); refine wpList_store_blk rfl 29 (.tmp 6) (.tmp 19) rfl (w.heap.size + 1) 0 Z rfl rfl 29 Z XB3.out (by rw [Z34.out]; exact Nat.le_refl _) (by rw [Z34.out]; exact infoCtC) ZO.out ?_; intro w4 b4 g4; rw [splice_all _ _ rfl, ← HBB.out] at b4; have XB4 := Lib.hid b4; have XA4 := Lib.hid (XA3.out.grown g4 (fun e => by have := Option.some.inj e; have := HBA.out; omega)); have W4 := Lib.hid (W3.out.grown g4 W3.out.size (fun g hg => by have := Option.some.inj hg; omega)); clear b4 g4 XA3 XB3 W3)
        | ((with_reducible show wpList _ _ _ (Oper.mk (some 23) (.build _ _) _ _ _ _ :: _) _ _); refine wpList_wanted rfl (.agg PP.toArray) (ex_build rfl (by simp only [List.map_toArray, List.map_cons, List.map_nil]; exact HBR.out)) ?_)
        | ((with_reducible show wpList _ _ _ (Oper.mk (some 25) (.build _ _) _ _ _ _ :: _) _ _); refine wpList_wanted rfl (.agg PP.toArray) (ex_build rfl (by simp only [List.map_toArray, List.map_cons, List.map_nil]; exact HBR.out)) ?_)
        | ((with_reducible show wpList _ _ _ (Oper.mk _ (.store _ (.tmp 26) (.tmp 23)) _ _ _ _ :: _) _ _); refine wpList_store_blk rfl 26 (.tmp 26) (.tmp 23) rfl w.heap.size 0 PP rfl rfl 29 Z (by have := XA4.out; rw [HBA.out] at this; exact this) (by rw [P33.out, Z34.out]; decide) (by rw [P33.out]; exact infoRfC) PO1.out ?_; intro w5 b5 g5; rw [HZS.out, ← HBA.out] at b5; have XA5 := Lib.hid b5; have XB5 := Lib.hid (XB4.out.grown g5 (fun e => by have := Option.some.inj e; have := HBB.out; omega)); have W5 := Lib.hid (W4.out.grown g5 W4.out.size (fun g hg => Nat.le_of_eq (Option.some.inj hg))); clear b5 g5)
        | ((with_reducible show wpList _ _ _ (Oper.mk _ (.store _ (.tmp 27) (.tmp 25)) _ _ _ _ :: _) _ _); refine wpList_store_blk rfl 26 (.tmp 27) (.tmp 25) rfl (w.heap.size + 1) 0 PP rfl rfl 29 Z (by have := XB5.out; rw [HBB.out] at this; exact this) (by rw [P33.out, Z34.out]; decide) (by rw [P33.out]; exact infoRfC) PO1.out ?_; intro w6 b6 g6; rw [HZS.out, ← HBB.out] at b6; have XB6 := Lib.hid b6; have XA6 := Lib.hid (XA5.out.grown g6 (fun e => by have := Option.some.inj e; have := HBA.out; omega)); have W6 := Lib.hid (W5.out.grown g6 W5.out.size (fun g hg => by have := Option.some.inj hg; omega)); clear b6 g6 XA5 XB5 W5))
      have XA := XA6
      have XB := XB6
      have W3 := W6
      clear XA4 XB4 W4 XA6 XB6 W6 h00' h00''
      rw [← HF0A.out] at XA
      rw [← HF0B.out] at XB
      rw [← HBB.out, ← HBA.out]
      go_loopw [7] (fun i wr => ∃ k : Nat, k ≤ n ∧ i = .int .i64 (k : Int) ∧ Below w.heap.size w wr ∧ ∃ ua qa ub qb, Blk wr bA 29 (ctc (FA k) (.slice ua (FA k).snaps.length qa)) ∧ wr.ownsRow (bB + 1) 60 34 (.slice ua (FA k).snaps.length qa) (FA k).snaps.length (sncs (FA k).snaps) ∧ Blk wr bB 29 (ctc (FB k) (.slice ub (FB k).snaps.length qb)) ∧ wr.ownsRow (bB + 1) 60 34 (.slice ub (FB k).snaps.length qb) (FB k).snaps.length (sncs (FB k).snaps)) (fun i _ => n - (intOf i).toNat)
      case atStart => exact ⟨0, Nat.zero_le _, rfl, W3.out, none, 0, none, 0, (by have h := XA.out; rw [HF0A.out] at h ⊢; exact h), (by rw [HF0A.out]; exact World.ownsRow_nil _ _ _ _), (by have h := XB.out; rw [HF0B.out] at h ⊢; exact h), (by rw [HF0B.out]; exact World.ownsRow_nil _ _ _ _)⟩
      case round =>
        obtain ⟨k, hk, rfl, hw, ua, qa, ub, qb, xa, va, xb, vb⟩ := hrel
        have W5 := Lib.hid hw
        have XA5 := Lib.hid xa
        have VA5 := Lib.hid va
        have XB5 := Lib.hid xb
        have VB5 := Lib.hid vb
        clear hw xa va xb vb XA XB W3
        by_cases hlt : k < n
        · have hkp : k < l0.length := by rw [← HN.out]; exact hlt
          obtain ⟨nb, no, hna, hck⟩ := HS.out.spot k hkp
          subst hna
          obtain ⟨j, hj⟩ : ∃ j, j = l0.length - 1 - k := ⟨_, rfl⟩
          have hjp : j < l0.length := by omega
          obtain ⟨nb', no', hnb, hcj⟩ := HS.out.spot j hjp
          cases hnb
          have CK := Lib.hid hck
          have CJ := Lib.hid hcj
          have HBL := Lib.hid (show bB + 1 ≤ wr.heap.size from XB5.out.lt)
          have HLT := Lib.hid (show (k : Int) < (n : Int) ∧ (0 : Int) ≤ (k : Int) by omega)
          have HJN := Lib.hid (show (j : Int) = (n : Int) - 1 - (k : Int) by have := HN.out; omega)
          have HLJ := Lib.hid (show (j : Int) < (n : Int) ∧ (0 : Int) ≤ (j : Int) by have := HN.out; omega)
          have HW1 := Lib.hid (show IntKind.i64.wrap ((n : Int) - 1) = (n : Int) - 1 by rw [IntKind.wrap_i64]; omega)
          have HW2 := Lib.hid (show IntKind.i64.wrap ((n : Int) - 1 - (k : Int)) = (j : Int) by rw [IntKind.wrap_i64]; have := HJN.out; omega)
          have HEAK := HEA.out k hkp
          have HEBK := HEB.out k (by rw [HRL.out]; exact hkp)
          have hrg := HRG.out k hkp
          rw [hrg] at HEBK
          have hjj : l0[l0.length - 1 - k]'(by omega) = l0[j] := by subst hj; rfl
          rw [hjj] at HEBK
          have hklt : (k : Int) < (n : Int) := HLT.out.1
          obtain ⟨nk, hnk⟩ : ∃ x, x = l0[k] := ⟨_, rfl⟩
          obtain ⟨nj, hnj⟩ : ∃ x, x = l0[j] := ⟨_, rfl⟩
          rw [← hnk] at HEAK CK
          rw [← hnj] at HEBK CJ
          have CKW := Lib.hid (fun w' (q : Below w.heap.size w w') => cell_below CK.out q)
          have CJW := Lib.hid (fun w' (q : Below w.heap.size w w') => cell_below CJ.out q)
          clear hck hcj hrg hjj hj CK CJ
          have hokA := (HOA.out k (by omega)).ok
          have hfwA := (HOA.out k (by omega)).few
          have HSNA := Lib.hid (fun W x => show Calls Try.prog 23 #[.agg (ctc (FA k) (.slice ua (FA k).snaps.length qa)).toArray, .string nk] W fun e w' => ∃ u, e = .returned (.tuple #[.agg (pc (CT.snap (FA k) nk).1.top ++ [u]).toArray, .int .i64 (CT.snap (FA k) nk).2]) ∧ w'.ownsRow W.heap.size 60 34 u (CT.snap (FA k) nk).1.snaps.length (sncs (CT.snap (FA k) nk).1.snaps) ∧ Below W.heap.size W w' from cpsnap_any (FA k) hokA nk (.slice ua (FA k).snaps.length qa) W x (by omega))
          have hroA := CT.snap_ok hokA nk
          have hSTA : FA (k + 1) = if (CT.snap (FA k) nk).2 = 0 then (CT.snap (FA k) nk).1 else FA k := HEAK
          obtain ⟨RA, hRA⟩ : ∃ x, x = (CT.snap (FA k) nk).1 := ⟨_, rfl⟩
          obtain ⟨EA, hEA⟩ : ∃ x, x = (CT.snap (FA k) nk).2 := ⟨_, rfl⟩
          rw [← hRA, ← hEA] at HSNA
          rw [← hRA] at hroA
          rw [← hRA, ← hEA] at hSTA
          have HSTA := Lib.hid hSTA
          have PAL := Lib.hid (fun u : Value => show (pc RA.top ++ [u]).length = 34 by rw [List.length_append, pc_len hroA.top]; rfl)
          have PAO := Lib.hid (fun (a : Option Addr) (n q : Nat) => show (pc RA.top ++ [Value.slice a n q]).toArray.all (·.oneCell') = true from ctc_all (c := ⟨RA.top, []⟩) rfl)
          have HCTA := Lib.hid (fun u : Value => show pc RA.top ++ [u] = ctc RA u from rfl)
          obtain ⟨PA, hPA⟩ : ∃ x, x = pc RA.top := ⟨_, rfl⟩
          rw [← hPA] at HSNA PAL PAO HCTA
          obtain ⟨NA, hNA⟩ : ∃ x, x = RA.snaps.length := ⟨_, rfl⟩
          obtain ⟨SA, hSA⟩ : ∃ x, x = sncs RA.snaps := ⟨_, rfl⟩
          rw [← hNA, ← hSA] at HSNA
          have HNA := Lib.hid hNA
          have HSA := Lib.hid hSA
          obtain ⟨LA, hLA⟩ : ∃ x, x = ctc (FA k) (.slice ua (FA k).snaps.length qa) := ⟨_, rfl⟩
          have LA34 := Lib.hid (show LA.length = 34 by rw [hLA]; exact ctc_len hokA.top _)
          have HLA := Lib.hid hLA
          rw [← hLA] at HSNA XA5
          clear hokA hfwA hroA hSTA hRA hEA hPA hNA hSA hLA
          have hokB := (HOB.out k (by rw [HRL.out]; omega)).ok
          have hfwB := (HOB.out k (by rw [HRL.out]; omega)).few
          have HSNB := Lib.hid (fun W x => show Calls Try.prog 23 #[.agg (ctc (FB k) (.slice ub (FB k).snaps.length qb)).toArray, .string nj] W fun e w' => ∃ u, e = .returned (.tuple #[.agg (pc (CT.snap (FB k) nj).1.top ++ [u]).toArray, .int .i64 (CT.snap (FB k) nj).2]) ∧ w'.ownsRow W.heap.size 60 34 u (CT.snap (FB k) nj).1.snaps.length (sncs (CT.snap (FB k) nj).1.snaps) ∧ Below W.heap.size W w' from cpsnap_any (FB k) hokB nj (.slice ub (FB k).snaps.length qb) W x (by omega))
          have hroB := CT.snap_ok hokB nj
          have hSTB : FB (k + 1) = if (CT.snap (FB k) nj).2 = 0 then (CT.snap (FB k) nj).1 else FB k := HEBK
          obtain ⟨RB, hRB⟩ : ∃ x, x = (CT.snap (FB k) nj).1 := ⟨_, rfl⟩
          obtain ⟨EB, hEB⟩ : ∃ x, x = (CT.snap (FB k) nj).2 := ⟨_, rfl⟩
          rw [← hRB, ← hEB] at HSNB
          rw [← hRB] at hroB
          rw [← hRB, ← hEB] at hSTB
          have HSTB := Lib.hid hSTB
          have PBL := Lib.hid (fun u : Value => show (pc RB.top ++ [u]).length = 34 by rw [List.length_append, pc_len hroB.top]; rfl)
          have PBO := Lib.hid (fun (a : Option Addr) (n q : Nat) => show (pc RB.top ++ [Value.slice a n q]).toArray.all (·.oneCell') = true from ctc_all (c := ⟨RB.top, []⟩) rfl)
          have HCTB := Lib.hid (fun u : Value => show pc RB.top ++ [u] = ctc RB u from rfl)
          obtain ⟨PB, hPB⟩ : ∃ x, x = pc RB.top := ⟨_, rfl⟩
          rw [← hPB] at HSNB PBL PBO HCTB
          obtain ⟨NB, hNB⟩ : ∃ x, x = RB.snaps.length := ⟨_, rfl⟩
          obtain ⟨SB, hSB⟩ : ∃ x, x = sncs RB.snaps := ⟨_, rfl⟩
          rw [← hNB, ← hSB] at HSNB
          have HNB := Lib.hid hNB
          have HSB := Lib.hid hSB
          obtain ⟨LB, hLB⟩ : ∃ x, x = ctc (FB k) (.slice ub (FB k).snaps.length qb) := ⟨_, rfl⟩
          have LB34 := Lib.hid (show LB.length = 34 by rw [hLB]; exact ctc_len hokB.top _)
          have HLB := Lib.hid hLB
          rw [← hLB] at HSNB XB5
          clear hokB hfwB hroB hSTB hRB hEB hPB hNB hSB hLB
          clear hnk hnj HEAK HEBK
          have HSN := HSNA
          have HSM := HSNB
          go_upto_region 9 with fail
          have XA := XA5
          have VA := Lib.hid (owned_rd VA5.out)
          have CK := Lib.hid (CKW.out _ W5.out)
          obtain ⟨wA, hwA⟩ : ∃ x, x = wr := ⟨_, rfl⟩
          rw [← hwA] at W5 XA XA5 VA VA5 XB5 VB5 CK HBL ⊢
          clear hwA
          refine wp_region_y (R := KindB 29) (by kernel_rfl) 12 (by decide) (fun i => [35, 36, 37, 38, 39, 40, 34, 41, 42, 8, 8, 9].getD i 0) (by kernel_rfl) (by kernel_rfl) (by kernel_rfl) wA.heap.size (Nat.le_refl _) [.val (.agg LA.toArray), .val (.slice (some ⟨nb, no, none⟩) n nq), .val (.int .i64 (k : Int)), .val (.pointer (some ⟨nb, no + k, none⟩)), .val (.string nk), .snIn (fun u => .tuple #[.agg (PA ++ [u]).toArray, .int .i64 EA]) NA SA, .snIn (fun u => .tuple #[.agg (PA ++ [u]).toArray, .int .i64 EA]) NA SA, .snIn (fun u => .agg (PA ++ [u]).toArray) NA SA, .val (.int .i64 EA), .blk 29 Z, .boxIn PA NA SA, .val (.int .i64 EA)] (fun j => if j = 9 then 10 else 12) ?_ ?_
          · refine ⟨?_, ?_, ?_, ?_, ?_, ?_, ?_, ?_, ?_, ?_, ?_, ?_, trivial⟩
            · intro a w' hF hB hd
              have e5 : a.eval (.tmp 5) = .pointer (some ⟨bA, 0, none⟩) := hF 5 (by decide +kernel)
              exact doesY_wp rfl (by decide) fun K' hK' => wp_load_mid 29 (.tmp 5) rfl bA 0 e5 LA _ (XA.out.below hB XA.out.lt).range Try.underlying29 rfl (by rw [LA34.out]; exact infoCtC) (hK' _ _ rfl (Below.refl _ _) (fun e => by cases e))
            · intro a w' hF hB hd
              have e0 : a.eval (.tmp 0) = .slice (some ⟨nb, no, none⟩) n nq := hF 0 (by decide +kernel)
              exact doesY_val rfl (by decide) (ex_move rfl e0) rfl rfl
            · intro a w' hF hB hd
              have e7 : a.eval (.tmp 7) = .int .i64 (k : Int) := hF 7 (by decide +kernel)
              exact doesY_val rfl (by decide) (ex_move rfl e7) rfl rfl
            · intro a w' hF hB hd
              have e36 : a.eval (.tmp 36) = .slice (some ⟨nb, no, none⟩) n nq := hd 1 (by decide +kernel) (.inr (by decide))
              have f36 : a.tmps[36]?.getD undef = .slice (some ⟨nb, no, none⟩) n nq := by rw [← Array.getD_eq_getD_getElem?]; exact e36
              have e37 : a.eval (.tmp 37) = .int .i64 (k : Int) := hd 2 (by decide +kernel) (.inr (by decide))
              have f37 : a.tmps[37]?.getD undef = .int .i64 (k : Int) := by rw [← Array.getD_eq_getD_getElem?]; exact e37
              have hkn := HLT.out.1
              have hk0 := HLT.out.2
              exact doesY_val (v := .pointer (some ⟨nb, no + k, none⟩)) rfl (by decide) (by unfold execOp; simp only [e36, e37]; go_simp) rfl rfl
            · intro a w' hF hB hd
              have e38 : a.eval (.tmp 38) = .pointer (some ⟨nb, no + k, none⟩) := hd 3 (by decide +kernel) (.inr (by decide))
              have cc := (cell_below CK.out hB)
              exact doesY_val (v := .string nk) rfl (by decide) (by unfold execOp; simp only [e38]; go_simp) rfl rfl
            · intro a w' hF hB hd
              have e35 : a.eval (.tmp 35) = .agg LA.toArray := hd 0 (by decide +kernel) (.inr (by decide))
              have e39 : a.eval (.tmp 39) = .string nk := hd 4 (by decide +kernel) (.inr (by decide))
              exact doesY_call rfl (by decide) (ex_call (vs := #[.agg LA.toArray, .string nk]) rfl (by simp only [List.map_toArray, List.map_cons, List.map_nil, e35, e39]) (by go_simp)) rfl ((HSN.out w' (VA.out.below hB)).mono fun e w2 hh => by obtain ⟨y, he, ho, hb⟩ := hh; exact ⟨_, he, ⟨y, rfl, ownT_lower ho hB.size⟩, hb⟩)
            · intro a w' hF hB hd
              obtain ⟨y, ey, oy⟩ : ∃ u : Value, a.eval (.tmp 40) = .tuple #[.agg (PA ++ [u]).toArray, .int .i64 EA] ∧ w'.ownsRow wA.heap.size 60 34 u NA SA := hd 5 (by decide +kernel) (.inr (by decide))
              exact doesY_val rfl (by decide) (ex_move rfl ey) ⟨y, rfl, oy⟩ rfl
            · intro a w' hF hB hd
              obtain ⟨y, ey, oy⟩ : ∃ u : Value, a.eval (.tmp 34) = .tuple #[.agg (PA ++ [u]).toArray, .int .i64 EA] ∧ w'.ownsRow wA.heap.size 60 34 u NA SA := hd 6 (by decide +kernel) (.inr (by decide))
              exact doesY_val (v := (fun u => .agg (PA ++ [u]).toArray) y) rfl (by decide) (by unfold execOp; simp only [ey]; go_simp) ⟨y, rfl, oy⟩ rfl
            · intro a w' hF hB hd
              obtain ⟨y, ey, oy⟩ : ∃ u : Value, a.eval (.tmp 34) = .tuple #[.agg (PA ++ [u]).toArray, .int .i64 EA] ∧ w'.ownsRow wA.heap.size 60 34 u NA SA := hd 6 (by decide +kernel) (.inr (by decide))
              exact doesY_val (v := .int .i64 EA) rfl (by decide) (by unfold execOp; simp only [ey]; go_simp) rfl rfl
            · intro a w' hF hB hd
              exact doesY_alloc rfl (by decide) 29 Z rfl hz hB.size rfl
            · intro a w' hF hB hd
              have e8 := hd 9 (by decide +kernel) (.inl (by decide))
              obtain ⟨y, ey, oy⟩ : ∃ u : Value, a.eval (.tmp 41) = .agg (PA ++ [u]).toArray ∧ w'.ownsRow wA.heap.size 60 34 u NA SA := hd 7 (by decide +kernel) (.inr (by decide))
              obtain ⟨ya, yc, rfl, _⟩ := (owned_rd oy).shape
              exact doesY_storeC rfl 8 (.tmp 41) rfl rfl 9 (by decide +kernel) (by decide) Z PA _ NA SA rfl rfl rfl e8 ey (by rw [PAL.out, Z34.out]) (by rw [PAL.out]; exact infoCtC) (PAO.out _ _ _) oy rfl
            · intro a w' hF hB hd
              have e42 : a.eval (.tmp 42) = .int .i64 EA := hd 8 (by decide +kernel) (.inr (by decide))
              exact doesY_val rfl (by decide) (ex_assign rfl e42) rfl rfl
          · intro vs w6 hB hS hv _
            obtain ⟨cx, ux, hvx, hcx, hbx, hox⟩ : ∃ (c : Nat) (u : Value), vs 10 = .pointer (some ⟨c, 0, none⟩) ∧ wA.heap.size ≤ c ∧ Blk w6 c 29 (PA ++ [u]) ∧ w6.ownsRow wA.heap.size 60 34 u NA SA := hv 10 (by decide) (by decide)
            have y3 : vs 9 = vs 10 := hS 9 10 rfl
            rw [hvx] at y3
            have y2 : vs 11 = .int .i64 EA := hv 11 (by decide) (by decide)
            obtain ⟨xa, xq, hsx, -⟩ := (owned_rd hox).shape
            subst hsx
            simp only [List.take_succ_cons, List.take_zero, List.drop_succ_cons, List.drop_zero, putOps, Act.put, List.setIfInBounds_toArray, List.set_cons_zero, List.set_cons_succ, y2, y3]
            have W6 := Lib.hid (W5.out.on hB)
            have XA6 := Lib.hid (XA5.out.below hB XA5.out.lt)
            have VA6 := Lib.hid (owned_below VA5.out hB)
            have XB6 := Lib.hid (XB5.out.below hB XB5.out.lt)
            have VB6 := Lib.hid (owned_below VB5.out hB)
            have BX := Lib.hid hbx
            have OX := Lib.hid (ownT_lower hox HBL.out)
            have HCX := Lib.hid (show bA < cx from Nat.lt_of_lt_of_le XA5.out.lt hcx)
            clear hv hvx hcx hbx hox y2 y3 hB hS XA VA XA5 VA5 XB5 VB5 CK W5
            by_cases hEA : EA = 0
            · have hFA : FA (k + 1) = RA := by rw [HSTA.out, if_pos hEA]
              subst hEA
              go_upto_region 12 with (first
                | ((with_reducible show wpList _ _ _ (Oper.mk (some 45) (.load _ _) _ _ _ _ :: _) _ _); refine wpList_load_mid rfl 29 (.tmp 8) rfl cx 0 rfl (PA ++ [.slice xa NA xq]) _ BX.out.range Try.underlying29 rfl (by rw [PAL.out]; exact infoCtC) ?_)
                | ((with_reducible show wpList _ _ _ (Oper.mk _ (.store _ (.tmp 5) (.tmp 45)) _ _ _ _ :: _) _ _); refine wpList_store_blk rfl 29 (.tmp 5) (.tmp 45) rfl bA 0 (PA ++ [.slice xa NA xq]) rfl rfl 29 LA XA6.out (by rw [PAL.out, LA34.out]; exact Nat.le_refl _) (by rw [PAL.out]; exact infoCtC) (PAO.out _ _ _) ?_; intro w7 b7 g7; rw [splice_all _ _ (by rw [PAL.out, LA34.out])] at b7; have xa7 := b7; have W7 := Lib.hid (W6.out.grown g7 W6.out.size (fun g hg => by have := Option.some.inj hg; have := HBA.out; omega)); have XB7 := Lib.hid (XB6.out.grown g7 (fun e => by have := Option.some.inj e; have := HBA.out; have := HBB.out; omega)); have VB7 := Lib.hid (World.ownsRow.kept VB6.out g7 (ne_res VB6.out (by have := HBA.out; have := HBB.out; omega))); have va7 := World.ownsRow.kept OX.out g7 (ne_res OX.out (by have := HBA.out; have := HBB.out; omega)); clear b7 g7))
              rw [HNA.out] at xa7 va7
              rw [HSA.out] at va7
              rw [HCTA.out, ← hFA] at xa7
              rw [← hFA] at va7
              have XA7 := Lib.hid xa7
              have VA7 := Lib.hid va7
              have XB := XB7
              have VB := Lib.hid (owned_rd VB7.out)
              have CJ := Lib.hid (CJW.out _ W7.out)
              obtain ⟨wB, hwB⟩ : ∃ x, x = w7 := ⟨_, rfl⟩
              clear xa7 va7 hFA XA6 VA6 XB6 VB6 BX OX HCX W6
              refine wp_region_y (R := KindB 29) (by kernel_rfl) 16 (by decide) (fun i => [47, 48, 49, 50, 51, 52, 53, 54, 55, 56, 46, 57, 58, 10, 10, 11].getD i 0) (by kernel_rfl) (by kernel_rfl) (by kernel_rfl) w7.heap.size (Nat.le_refl _) [.val (.agg LB.toArray), .val (.slice (some ⟨nb, no, none⟩) n nq), .val (.slice (some ⟨nb, no, none⟩) n nq), .val (.int .i64 (n : Int)), .val (.int .i64 ((n : Int) - 1)), .val (.int .i64 (k : Int)), .val (.int .i64 (j : Int)), .val (.pointer (some ⟨nb, no + j, none⟩)), .val (.string nj), .snIn (fun u => .tuple #[.agg (PB ++ [u]).toArray, .int .i64 EB]) NB SB, .snIn (fun u => .tuple #[.agg (PB ++ [u]).toArray, .int .i64 EB]) NB SB, .snIn (fun u => .agg (PB ++ [u]).toArray) NB SB, .val (.int .i64 EB), .blk 29 Z, .boxIn PB NB SB, .val (.int .i64 EB)] (fun j => if j = 13 then 14 else 16) ?_ ?_
              · refine ⟨?_, ?_, ?_, ?_, ?_, ?_, ?_, ?_, ?_, ?_, ?_, ?_, ?_, ?_, ?_, ?_, trivial⟩
                · intro a w' hF hB hd
                  have e6 : a.eval (.tmp 6) = .pointer (some ⟨bB, 0, none⟩) := hF 6 (by decide +kernel)
                  exact doesY_wp rfl (by decide) fun K' hK' => wp_load_mid 29 (.tmp 6) rfl bB 0 e6 LB _ (XB.out.below hB XB.out.lt).range Try.underlying29 rfl (by rw [LB34.out]; exact infoCtC) (hK' _ _ rfl (Below.refl _ _) (fun e => by cases e))
                · intro a w' hF hB hd
                  have e0 : a.eval (.tmp 0) = .slice (some ⟨nb, no, none⟩) n nq := hF 0 (by decide +kernel)
                  exact doesY_val rfl (by decide) (ex_move rfl e0) rfl rfl
                · intro a w' hF hB hd
                  have e0 : a.eval (.tmp 0) = .slice (some ⟨nb, no, none⟩) n nq := hF 0 (by decide +kernel)
                  exact doesY_val rfl (by decide) (ex_move rfl e0) rfl rfl
                · intro a w' hF hB hd
                  have e49 : a.eval (.tmp 49) = .slice (some ⟨nb, no, none⟩) n nq := hd 2 (by decide +kernel) (.inr (by decide))
                  have f49 : a.tmps[49]?.getD undef = .slice (some ⟨nb, no, none⟩) n nq := by rw [← Array.getD_eq_getD_getElem?]; exact e49
                  exact doesY_val (v := .int .i64 (n : Int)) rfl (by decide) (by unfold execOp; go_simp) rfl rfl
                · intro a w' hF hB hd
                  have e50 : a.eval (.tmp 50) = .int .i64 (n : Int) := hd 3 (by decide +kernel) (.inr (by decide))
                  exact doesY_val rfl (by decide) (ex_binOp rfl e50 rfl (by go_simp) (by have := HW1.out; go_simp)) rfl rfl
                · intro a w' hF hB hd
                  have e7 : a.eval (.tmp 7) = .int .i64 (k : Int) := hF 7 (by decide +kernel)
                  exact doesY_val rfl (by decide) (ex_move rfl e7) rfl rfl
                · intro a w' hF hB hd
                  have e51 : a.eval (.tmp 51) = .int .i64 ((n : Int) - 1) := hd 4 (by decide +kernel) (.inr (by decide))
                  have e52 : a.eval (.tmp 52) = .int .i64 (k : Int) := hd 5 (by decide +kernel) (.inr (by decide))
                  exact doesY_val rfl (by decide) (ex_binOp rfl e51 e52 (by go_simp) (by have := HW2.out; go_simp)) rfl rfl
                · intro a w' hF hB hd
                  have e48 : a.eval (.tmp 48) = .slice (some ⟨nb, no, none⟩) n nq := hd 1 (by decide +kernel) (.inr (by decide))
                  have f48 : a.tmps[48]?.getD undef = .slice (some ⟨nb, no, none⟩) n nq := by rw [← Array.getD_eq_getD_getElem?]; exact e48
                  have e53 : a.eval (.tmp 53) = .int .i64 (j : Int) := hd 6 (by decide +kernel) (.inr (by decide))
                  have f53 : a.tmps[53]?.getD undef = .int .i64 (j : Int) := by rw [← Array.getD_eq_getD_getElem?]; exact e53
                  have hjn := HLJ.out.1
                  have hj0 := HLJ.out.2
                  exact doesY_val (v := .pointer (some ⟨nb, no + j, none⟩)) rfl (by decide) (by unfold execOp; simp only [e48, e53]; go_simp) rfl rfl
                · intro a w' hF hB hd
                  have e54 : a.eval (.tmp 54) = .pointer (some ⟨nb, no + j, none⟩) := hd 7 (by decide +kernel) (.inr (by decide))
                  have cc := (cell_below CJ.out hB)
                  exact doesY_val (v := .string nj) rfl (by decide) (by unfold execOp; simp only [e54]; go_simp) rfl rfl
                · intro a w' hF hB hd
                  have e47 : a.eval (.tmp 47) = .agg LB.toArray := hd 0 (by decide +kernel) (.inr (by decide))
                  have e55 : a.eval (.tmp 55) = .string nj := hd 8 (by decide +kernel) (.inr (by decide))
                  exact doesY_call rfl (by decide) (ex_call (vs := #[.agg LB.toArray, .string nj]) rfl (by simp only [List.map_toArray, List.map_cons, List.map_nil, e47, e55]) (by go_simp)) rfl ((HSM.out w' (VB.out.below hB)).mono fun e w2 hh => by obtain ⟨y, he, ho, hb⟩ := hh; exact ⟨_, he, ⟨y, rfl, ownT_lower ho hB.size⟩, hb⟩)
                · intro a w' hF hB hd
                  obtain ⟨y, ey, oy⟩ : ∃ u : Value, a.eval (.tmp 56) = .tuple #[.agg (PB ++ [u]).toArray, .int .i64 EB] ∧ w'.ownsRow w7.heap.size 60 34 u NB SB := hd 9 (by decide +kernel) (.inr (by decide))
                  exact doesY_val rfl (by decide) (ex_move rfl ey) ⟨y, rfl, oy⟩ rfl
                · intro a w' hF hB hd
                  obtain ⟨y, ey, oy⟩ : ∃ u : Value, a.eval (.tmp 46) = .tuple #[.agg (PB ++ [u]).toArray, .int .i64 EB] ∧ w'.ownsRow w7.heap.size 60 34 u NB SB := hd 10 (by decide +kernel) (.inr (by decide))
                  exact doesY_val (v := (fun u => .agg (PB ++ [u]).toArray) y) rfl (by decide) (by unfold execOp; simp only [ey]; go_simp) ⟨y, rfl, oy⟩ rfl
                · intro a w' hF hB hd
                  obtain ⟨y, ey, oy⟩ : ∃ u : Value, a.eval (.tmp 46) = .tuple #[.agg (PB ++ [u]).toArray, .int .i64 EB] ∧ w'.ownsRow w7.heap.size 60 34 u NB SB := hd 10 (by decide +kernel) (.inr (by decide))
                  exact doesY_val (v := .int .i64 EB) rfl (by decide) (by unfold execOp; simp only [ey]; go_simp) rfl rfl
                · intro a w' hF hB hd
                  exact doesY_alloc rfl (by decide) 29 Z rfl hz hB.size rfl
                · intro a w' hF hB hd
                  have e10 := hd 13 (by decide +kernel) (.inl (by decide))
                  obtain ⟨y, ey, oy⟩ : ∃ u : Value, a.eval (.tmp 57) = .agg (PB ++ [u]).toArray ∧ w'.ownsRow w7.heap.size 60 34 u NB SB := hd 11 (by decide +kernel) (.inr (by decide))
                  obtain ⟨ya, yc, rfl, _⟩ := (owned_rd oy).shape
                  exact doesY_storeC rfl 10 (.tmp 57) rfl rfl 13 (by decide +kernel) (by decide) Z PB _ NB SB rfl rfl rfl e10 ey (by rw [PBL.out, Z34.out]) (by rw [PBL.out]; exact infoCtC) (PBO.out _ _ _) oy rfl
                · intro a w' hF hB hd
                  have e58 : a.eval (.tmp 58) = .int .i64 EB := hd 12 (by decide +kernel) (.inr (by decide))
                  exact doesY_val rfl (by decide) (ex_assign rfl e58) rfl rfl
              · intro vs w8 hB hS hv _
                obtain ⟨cx, ux, hvx, hcx, hbx, hox⟩ : ∃ (c : Nat) (u : Value), vs 14 = .pointer (some ⟨c, 0, none⟩) ∧ w7.heap.size ≤ c ∧ Blk w8 c 29 (PB ++ [u]) ∧ w8.ownsRow w7.heap.size 60 34 u NB SB := hv 14 (by decide) (by decide)
                have y3 : vs 13 = vs 14 := hS 13 14 rfl
                rw [hvx] at y3
                have y2 : vs 15 = .int .i64 EB := hv 15 (by decide) (by decide)
                obtain ⟨xa, xq, hsx, -⟩ := (owned_rd hox).shape
                subst hsx
                simp only [List.take_succ_cons, List.take_zero, List.drop_succ_cons, List.drop_zero, putOps, Act.put, List.setIfInBounds_toArray, List.set_cons_zero, List.set_cons_succ, y2, y3]
                have W8 := Lib.hid (W7.out.on hB)
                have XA8 := Lib.hid (XA7.out.below hB XA7.out.lt)
                have VA8 := Lib.hid (owned_below VA7.out hB)
                have XB8 := Lib.hid (XB7.out.below hB XB7.out.lt)
                have VB8 := Lib.hid (owned_below VB7.out hB)
                have BX := Lib.hid hbx
                have OX := Lib.hid (ownT_lower hox (show bB + 1 ≤ w7.heap.size from XB7.out.lt))
                have HCX := Lib.hid (show bB < cx from Nat.lt_of_lt_of_le XB7.out.lt hcx)
                clear hv hvx hcx hbx hox y2 y3 hB hS
                by_cases hEB : EB = 0
                · have hFB : FB (k + 1) = RB := by rw [HSTB.out, if_pos hEB]
                  subst hEB
                  go_wp2_with ((fail_if_success (with_reducible show bodyPost _ _ _ _ _ _)); first
                    | ((with_reducible show wpList _ _ _ (Oper.mk (some 61) (.load _ _) _ _ _ _ :: _) _ _); refine wpList_load_mid rfl 29 (.tmp 10) rfl cx 0 rfl (PB ++ [.slice xa NB xq]) _ BX.out.range Try.underlying29 rfl (by rw [PBL.out]; exact infoCtC) ?_)
                    | ((with_reducible show wpList _ _ _ (Oper.mk _ (.store _ (.tmp 6) (.tmp 61)) _ _ _ _ :: _) _ _); refine wpList_store_blk rfl 29 (.tmp 6) (.tmp 61) rfl bB 0 (PB ++ [.slice xa NB xq]) rfl rfl 29 LB XB8.out (by rw [PBL.out, LB34.out]; exact Nat.le_refl _) (by rw [PBL.out]; exact infoCtC) (PBO.out _ _ _) ?_; intro w9 b9 g9; rw [splice_all _ _ (by rw [PBL.out, LB34.out])] at b9; have XB9 := b9; have W9 := Lib.hid (W8.out.grown g9 W8.out.size (fun g hg => by have := Option.some.inj hg; have := HBB.out; omega)); have XA9 := Lib.hid (XA8.out.grown g9 (fun e => by have := Option.some.inj e; have := HBA.out; have := HBB.out; omega)); have VA9 := Lib.hid (World.ownsRow.kept VA8.out g9 (ne_res VA8.out (by omega))); have VB9 := World.ownsRow.kept OX.out g9 (ne_res OX.out (by omega)); clear b9))
                  rw [HNB.out] at XB9 VB9
                  rw [HSB.out] at VB9
                  rw [HCTB.out, ← hFB] at XB9
                  rw [← hFB] at VB9
                  exact ⟨⟨k + 1, by omega, by go_num, W9.out, _, _, _, _, XA9.out, VA9.out, XB9, VB9⟩, by simp [intOf]; omega⟩
                · have hFB : FB (k + 1) = FB k := by rw [HSTB.out, if_neg hEB]
                  have hE1 : (EB == 0) = false := by simpa using hEB
                  have XB9 := XB8.out
                  rw [HLB.out, ← hFB] at XB9
                  have VB9 := VB8.out
                  rw [← hFB] at VB9
                  have HX9 := Lib.hid XB9
                  have HV9 := Lib.hid VB9
                  clear XB9 VB9 hFB
                  go_wp2_with fail
                  exact ⟨⟨k + 1, by omega, by go_num, W8.out, _, _, _, _, XA8.out, VA8.out, HX9.out, HV9.out⟩, by simp [intOf]; omega⟩
            · have hFA : FA (k + 1) = FA k := by rw [HSTA.out, if_neg hEA]
              have hE1 : (EA == 0) = false := by simpa using hEA
              obtain ⟨w7, hw7⟩ : ∃ x, x = w6 := ⟨_, rfl⟩
              have xa7 := XA6.out
              have va7 := VA6.out
              rw [HLA.out, ← hFA] at xa7
              rw [← hFA] at va7
              have XA7 := Lib.hid xa7
              have VA7 := Lib.hid va7
              have XB7 := XB6
              have VB7 := VB6
              have W7 := W6
              go_upto_region 12 with fail
              have CJ := Lib.hid (CJW.out _ W7.out)
              rw [← hw7] at XA7 VA7 XB7 VB7 W7 CJ ⊢
              have XB := XB7
              have VB := Lib.hid (owned_rd VB7.out)
              clear xa7 va7 hFA XA6 VA6 XB6 VB6 BX OX HCX W6 hw7
              refine wp_region_y (R := KindB 29) (by kernel_rfl) 16 (by decide) (fun i => [47, 48, 49, 50, 51, 52, 53, 54, 55, 56, 46, 57, 58, 10, 10, 11].getD i 0) (by kernel_rfl) (by kernel_rfl) (by kernel_rfl) w7.heap.size (Nat.le_refl _) [.val (.agg LB.toArray), .val (.slice (some ⟨nb, no, none⟩) n nq), .val (.slice (some ⟨nb, no, none⟩) n nq), .val (.int .i64 (n : Int)), .val (.int .i64 ((n : Int) - 1)), .val (.int .i64 (k : Int)), .val (.int .i64 (j : Int)), .val (.pointer (some ⟨nb, no + j, none⟩)), .val (.string nj), .snIn (fun u => .tuple #[.agg (PB ++ [u]).toArray, .int .i64 EB]) NB SB, .snIn (fun u => .tuple #[.agg (PB ++ [u]).toArray, .int .i64 EB]) NB SB, .snIn (fun u => .agg (PB ++ [u]).toArray) NB SB, .val (.int .i64 EB), .blk 29 Z, .boxIn PB NB SB, .val (.int .i64 EB)] (fun j => if j = 13 then 14 else 16) ?_ ?_
              · refine ⟨?_, ?_, ?_, ?_, ?_, ?_, ?_, ?_, ?_, ?_, ?_, ?_, ?_, ?_, ?_, ?_, trivial⟩
                · intro a w' hF hB hd
                  have e6 : a.eval (.tmp 6) = .pointer (some ⟨bB, 0, none⟩) := hF 6 (by decide +kernel)
                  exact doesY_wp rfl (by decide) fun K' hK' => wp_load_mid 29 (.tmp 6) rfl bB 0 e6 LB _ (XB.out.below hB XB.out.lt).range Try.underlying29 rfl (by rw [LB34.out]; exact infoCtC) (hK' _ _ rfl (Below.refl _ _) (fun e => by cases e))
                · intro a w' hF hB hd
                  have e0 : a.eval (.tmp 0) = .slice (some ⟨nb, no, none⟩) n nq := hF 0 (by decide +kernel)
                  exact doesY_val rfl (by decide) (ex_move rfl e0) rfl rfl
                · intro a w' hF hB hd
                  have e0 : a.eval (.tmp 0) = .slice (some ⟨nb, no, none⟩) n nq := hF 0 (by decide +kernel)
                  exact doesY_val rfl (by decide) (ex_move rfl e0) rfl rfl
                · intro a w' hF hB hd
                  have e49 : a.eval (.tmp 49) = .slice (some ⟨nb, no, none⟩) n nq := hd 2 (by decide +kernel) (.inr (by decide))
                  have f49 : a.tmps[49]?.getD undef = .slice (some ⟨nb, no, none⟩) n nq := by rw [← Array.getD_eq_getD_getElem?]; exact e49
                  exact doesY_val (v := .int .i64 (n : Int)) rfl (by decide) (by unfold execOp; go_simp) rfl rfl
                · intro a w' hF hB hd
                  have e50 : a.eval (.tmp 50) = .int .i64 (n : Int) := hd 3 (by decide +kernel) (.inr (by decide))
                  exact doesY_val rfl (by decide) (ex_binOp rfl e50 rfl (by go_simp) (by have := HW1.out; go_simp)) rfl rfl
                · intro a w' hF hB hd
                  have e7 : a.eval (.tmp 7) = .int .i64 (k : Int) := hF 7 (by decide +kernel)
                  exact doesY_val rfl (by decide) (ex_move rfl e7) rfl rfl
                · intro a w' hF hB hd
                  have e51 : a.eval (.tmp 51) = .int .i64 ((n : Int) - 1) := hd 4 (by decide +kernel) (.inr (by decide))
                  have e52 : a.eval (.tmp 52) = .int .i64 (k : Int) := hd 5 (by decide +kernel) (.inr (by decide))
                  exact doesY_val rfl (by decide) (ex_binOp rfl e51 e52 (by go_simp) (by have := HW2.out; go_simp)) rfl rfl
                · intro a w' hF hB hd
                  have e48 : a.eval (.tmp 48) = .slice (some ⟨nb, no, none⟩) n nq := hd 1 (by decide +kernel) (.inr (by decide))
                  have f48 : a.tmps[48]?.getD undef = .slice (some ⟨nb, no, none⟩) n nq := by rw [← Array.getD_eq_getD_getElem?]; exact e48
                  have e53 : a.eval (.tmp 53) = .int .i64 (j : Int) := hd 6 (by decide +kernel) (.inr (by decide))
                  have f53 : a.tmps[53]?.getD undef = .int .i64 (j : Int) := by rw [← Array.getD_eq_getD_getElem?]; exact e53
                  have hjn := HLJ.out.1
                  have hj0 := HLJ.out.2
                  exact doesY_val (v := .pointer (some ⟨nb, no + j, none⟩)) rfl (by decide) (by unfold execOp; simp only [e48, e53]; go_simp) rfl rfl
                · intro a w' hF hB hd
                  have e54 : a.eval (.tmp 54) = .pointer (some ⟨nb, no + j, none⟩) := hd 7 (by decide +kernel) (.inr (by decide))
                  have cc := (cell_below CJ.out hB)
                  exact doesY_val (v := .string nj) rfl (by decide) (by unfold execOp; simp only [e54]; go_simp) rfl rfl
                · intro a w' hF hB hd
                  have e47 : a.eval (.tmp 47) = .agg LB.toArray := hd 0 (by decide +kernel) (.inr (by decide))
                  have e55 : a.eval (.tmp 55) = .string nj := hd 8 (by decide +kernel) (.inr (by decide))
                  exact doesY_call rfl (by decide) (ex_call (vs := #[.agg LB.toArray, .string nj]) rfl (by simp only [List.map_toArray, List.map_cons, List.map_nil, e47, e55]) (by go_simp)) rfl ((HSM.out w' (VB.out.below hB)).mono fun e w2 hh => by obtain ⟨y, he, ho, hb⟩ := hh; exact ⟨_, he, ⟨y, rfl, ownT_lower ho hB.size⟩, hb⟩)
                · intro a w' hF hB hd
                  obtain ⟨y, ey, oy⟩ : ∃ u : Value, a.eval (.tmp 56) = .tuple #[.agg (PB ++ [u]).toArray, .int .i64 EB] ∧ w'.ownsRow w7.heap.size 60 34 u NB SB := hd 9 (by decide +kernel) (.inr (by decide))
                  exact doesY_val rfl (by decide) (ex_move rfl ey) ⟨y, rfl, oy⟩ rfl
                · intro a w' hF hB hd
                  obtain ⟨y, ey, oy⟩ : ∃ u : Value, a.eval (.tmp 46) = .tuple #[.agg (PB ++ [u]).toArray, .int .i64 EB] ∧ w'.ownsRow w7.heap.size 60 34 u NB SB := hd 10 (by decide +kernel) (.inr (by decide))
                  exact doesY_val (v := (fun u => .agg (PB ++ [u]).toArray) y) rfl (by decide) (by unfold execOp; simp only [ey]; go_simp) ⟨y, rfl, oy⟩ rfl
                · intro a w' hF hB hd
                  obtain ⟨y, ey, oy⟩ : ∃ u : Value, a.eval (.tmp 46) = .tuple #[.agg (PB ++ [u]).toArray, .int .i64 EB] ∧ w'.ownsRow w7.heap.size 60 34 u NB SB := hd 10 (by decide +kernel) (.inr (by decide))
                  exact doesY_val (v := .int .i64 EB) rfl (by decide) (by unfold execOp; simp only [ey]; go_simp) rfl rfl
                · intro a w' hF hB hd
                  exact doesY_alloc rfl (by decide) 29 Z rfl hz hB.size rfl
                · intro a w' hF hB hd
                  have e10 := hd 13 (by decide +kernel) (.inl (by decide))
                  obtain ⟨y, ey, oy⟩ : ∃ u : Value, a.eval (.tmp 57) = .agg (PB ++ [u]).toArray ∧ w'.ownsRow w7.heap.size 60 34 u NB SB := hd 11 (by decide +kernel) (.inr (by decide))
                  obtain ⟨ya, yc, rfl, _⟩ := (owned_rd oy).shape
                  exact doesY_storeC rfl 10 (.tmp 57) rfl rfl 13 (by decide +kernel) (by decide) Z PB _ NB SB rfl rfl rfl e10 ey (by rw [PBL.out, Z34.out]) (by rw [PBL.out]; exact infoCtC) (PBO.out _ _ _) oy rfl
                · intro a w' hF hB hd
                  have e58 : a.eval (.tmp 58) = .int .i64 EB := hd 12 (by decide +kernel) (.inr (by decide))
                  exact doesY_val rfl (by decide) (ex_assign rfl e58) rfl rfl
              · intro vs w8 hB hS hv _
                obtain ⟨cx, ux, hvx, hcx, hbx, hox⟩ : ∃ (c : Nat) (u : Value), vs 14 = .pointer (some ⟨c, 0, none⟩) ∧ w7.heap.size ≤ c ∧ Blk w8 c 29 (PB ++ [u]) ∧ w8.ownsRow w7.heap.size 60 34 u NB SB := hv 14 (by decide) (by decide)
                have y3 : vs 13 = vs 14 := hS 13 14 rfl
                rw [hvx] at y3
                have y2 : vs 15 = .int .i64 EB := hv 15 (by decide) (by decide)
                obtain ⟨xa, xq, hsx, -⟩ := (owned_rd hox).shape
                subst hsx
                simp only [List.take_succ_cons, List.take_zero, List.drop_succ_cons, List.drop_zero, putOps, Act.put, List.setIfInBounds_toArray, List.set_cons_zero, List.set_cons_succ, y2, y3]
                have W8 := Lib.hid (W7.out.on hB)
                have XA8 := Lib.hid (XA7.out.below hB XA7.out.lt)
                have VA8 := Lib.hid (owned_below VA7.out hB)
                have XB8 := Lib.hid (XB7.out.below hB XB7.out.lt)
                have VB8 := Lib.hid (owned_below VB7.out hB)
                have BX := Lib.hid hbx
                have OX := Lib.hid (ownT_lower hox (show bB + 1 ≤ w7.heap.size from XB7.out.lt))
                have HCX := Lib.hid (show bB < cx from Nat.lt_of_lt_of_le XB7.out.lt hcx)
                clear hv hvx hcx hbx hox y2 y3 hB hS
                by_cases hEB : EB = 0
                · have hFB : FB (k + 1) = RB := by rw [HSTB.out, if_pos hEB]
                  subst hEB
                  go_wp2_with ((fail_if_success (with_reducible show bodyPost _ _ _ _ _ _)); first
                    | ((with_reducible show wpList _ _ _ (Oper.mk (some 61) (.load _ _) _ _ _ _ :: _) _ _); refine wpList_load_mid rfl 29 (.tmp 10) rfl cx 0 rfl (PB ++ [.slice xa NB xq]) _ BX.out.range Try.underlying29 rfl (by rw [PBL.out]; exact infoCtC) ?_)
                    | ((with_reducible show wpList _ _ _ (Oper.mk _ (.store _ (.tmp 6) (.tmp 61)) _ _ _ _ :: _) _ _); refine wpList_store_blk rfl 29 (.tmp 6) (.tmp 61) rfl bB 0 (PB ++ [.slice xa NB xq]) rfl rfl 29 LB XB8.out (by rw [PBL.out, LB34.out]; exact Nat.le_refl _) (by rw [PBL.out]; exact infoCtC) (PBO.out _ _ _) ?_; intro w9 b9 g9; rw [splice_all _ _ (by rw [PBL.out, LB34.out])] at b9; have XB9 := b9; have W9 := Lib.hid (W8.out.grown g9 W8.out.size (fun g hg => by have := Option.some.inj hg; have := HBB.out; omega)); have XA9 := Lib.hid (XA8.out.grown g9 (fun e => by have := Option.some.inj e; have := HBA.out; have := HBB.out; omega)); have VA9 := Lib.hid (World.ownsRow.kept VA8.out g9 (ne_res VA8.out (by omega))); have VB9 := World.ownsRow.kept OX.out g9 (ne_res OX.out (by omega)); clear b9))
                  rw [HNB.out] at XB9 VB9
                  rw [HSB.out] at VB9
                  rw [HCTB.out, ← hFB] at XB9
                  rw [← hFB] at VB9
                  exact ⟨⟨k + 1, by omega, by go_num, W9.out, _, _, _, _, XA9.out, VA9.out, XB9, VB9⟩, by simp [intOf]; omega⟩
                · have hFB : FB (k + 1) = FB k := by rw [HSTB.out, if_neg hEB]
                  have hE1 : (EB == 0) = false := by simpa using hEB
                  have XB9 := XB8.out
                  rw [HLB.out, ← hFB] at XB9
                  have VB9 := VB8.out
                  rw [← hFB] at VB9
                  have HX9 := Lib.hid XB9
                  have HV9 := Lib.hid VB9
                  clear XB9 VB9 hFB
                  go_wp2_with fail
                  exact ⟨⟨k + 1, by omega, by go_num, W8.out, _, _, _, _, XA8.out, VA8.out, HX9.out, HV9.out⟩, by simp [intOf]; omega⟩
        · obtain rfl : k = n := by omega
          have hkk : ¬ (k : Int) < (k : Int) := by omega
          have hFF : FB k = FA k := by have h := HRV.out; rw [← HN.out] at h; exact h
          have xa := XA5.out
          have va := owned_rd VA5.out
          have xb := XB5.out
          have vb := owned_rd VB5.out
          rw [hFF] at xb vb
          have hof := HOA.out k (by rw [← HN.out]; exact Nat.le_refl _)
          have hok := hof.ok
          have hck := hof.chk
          have hfw := hof.few
          clear hof hFF
          obtain ⟨C, hC⟩ : ∃ C, C = FA k := ⟨_, rfl⟩
          rw [← hC] at xa va xb vb hok hck hfw
          clear hC
          have hpr := (rises_pair.1 (check_zero.1 hck).2.1).2
          have HNM := Lib.hid (fun W x => pnames_any C hok (.slice ua C.snaps.length qa) W x (by omega))
          have HCK := Lib.hid (fun W x => show Calls Try.prog 15 #[.agg (ctc C (.slice ua C.snaps.length qa)).toArray] W fun e w' => e = .returned (.int .i64 0) ∧ Below W.heap.size W w' by
            have q := pccheck_any C hok (.slice ua C.snaps.length qa) W x (by omega)
            rw [hck] at q
            exact q)
          have HSM := Lib.hid (fun W x y => show Calls Try.prog 22 #[.agg (ctc C (.slice ua C.snaps.length qa)).toArray, .agg (ctc C (.slice ub C.snaps.length qb)).toArray] W fun e w' => e = .returned (.bool true) ∧ Below W.heap.size W w' by
            have q := psame_any C C hok hok (.slice ua C.snaps.length qa) (.slice ub C.snaps.length qb) W x y (by omega)
            rw [ctEq_iff.2 rfl] at q
            exact q)
          obtain ⟨NS, hNS⟩ : ∃ x, x = C.snaps.map Sn.name := ⟨_, rfl⟩
          have HRI := Lib.hid (fun (i : Nat) (h : i + 1 < NS.length) => show nlt NS[i] NS[i + 1] = true by
            subst hNS
            rw [List.getElem_map, List.getElem_map]
            exact List.pairwise_iff_getElem.1 hpr i (i + 1) (by simp at h; omega) (by simpa using h) (by omega))
          have HNL := Lib.hid (show NS.length ≤ 20 by rw [hNS, List.length_map]; omega)
          rw [← hNS] at HNM
          obtain ⟨L1, hL1⟩ : ∃ x, x = ctc C (.slice ua C.snaps.length qa) := ⟨_, rfl⟩
          obtain ⟨L2, hL2⟩ : ∃ x, x = ctc C (.slice ub C.snaps.length qb) := ⟨_, rfl⟩
          have L134 := Lib.hid (show L1.length = 34 by rw [hL1]; exact ctc_len hok.top _)
          have L234 := Lib.hid (show L2.length = 34 by rw [hL2]; exact ctc_len hok.top _)
          rw [← hL1] at HNM HCK xa
          rw [← hL1, ← hL2] at HSM
          rw [← hL2] at xb
          obtain ⟨nC, hnC⟩ : ∃ x, x = C.snaps.length := ⟨_, rfl⟩
          obtain ⟨sC, hsC⟩ : ∃ x, x = sncs C.snaps := ⟨_, rfl⟩
          rw [← hnC, ← hsC] at va vb HNM HCK HSM
          have XA := Lib.hid xa
          have VA := Lib.hid va
          have XB := Lib.hid xb
          have VB := Lib.hid vb
          clear hok hck hfw hpr hNS hL1 hL2 hnC hsC xa va xb vb XA5 XB5 VA5 VB5
          obtain ⟨ML, hML⟩ : ∃ x, x = NS.length := ⟨_, rfl⟩
          have HML := Lib.hid hML
          clear hML
          go_wp2_with ((fail_if_success (with_reducible show bodyPost _ _ _ _ _ _)); first
            | ((with_reducible show wpList _ _ _ (Oper.mk (some 62) (.load _ _) _ _ _ _ :: _) _ _); refine wpList_load_mid rfl 29 (.tmp 5) rfl bA 0 rfl L1 _ XA.out.range Try.underlying29 rfl (by rw [L134.out]; exact infoCtC) ?_)
            | (go_at_call 33; (with_reducible refine (HNM.out _ VA.out).mono ?_); rintro e w6 ⟨uN, rfl, hs6, b6⟩; obtain ⟨na6, nq6, hu6, -⟩ := hs6.shape; rw [← HML.out] at hu6; subst hu6; have S6 := Lib.hid hs6; have W6 := Lib.hid (W5.out.on b6); have XA6 := Lib.hid (XA.out.below b6 XA.out.lt); have XB6 := Lib.hid (XB.out.below b6 XB.out.lt); have VA6 := Lib.hid (VA.out.below b6); have VB6 := Lib.hid (VB.out.below b6); clear b6 hs6 XA XB VA VB W5))
          go_loopw [13] (fun i wr => ∃ m : Nat, 1 ≤ m ∧ i = .int .i64 (m : Int) ∧ Below w6.heap.size w6 wr) (fun i _ => ML + 1 - (intOf i).toNat)
          case atStart => exact ⟨1, Nat.le_refl _, rfl, Below.refl _ _⟩
          case round =>
            obtain ⟨m, hm1, rfl, hw7⟩ := hrel
            have W7 := Lib.hid (W6.out.on hw7)
            have XA7 := Lib.hid (XA6.out.below hw7 XA6.out.lt)
            have XB7 := Lib.hid (XB6.out.below hw7 XB6.out.lt)
            have VA7 := Lib.hid (VA6.out.below hw7)
            have VB7 := Lib.hid (VB6.out.below hw7)
            by_cases hlm : m < ML
            · have hm20 : m ≤ 20 := by have := HML.out; have := HNL.out; omega
              have hmp : m < NS.length := by rw [← HML.out]; exact hlm
              have s7 := S6.out.below hw7
              obtain ⟨sb, so, hna, hcm⟩ := s7.spot m hmp
              subst hna
              obtain ⟨sb', so', hnb, hcl⟩ := s7.spot (m - 1) (by omega)
              cases hnb
              have hri := HRI.out (m - 1) (by omega)
              have hcl' : NS[m - 1 + 1]'(by omega) = NS[m] := by congr 1; omega
              rw [hcl'] at hri
              obtain ⟨n1, hn1⟩ : ∃ x, x = NS[m] := ⟨_, rfl⟩
              obtain ⟨n2, hn2⟩ : ∃ x, x = NS[m - 1] := ⟨_, rfl⟩
              rw [← hn1] at hcm hri
              rw [← hn2] at hcl hri
              have CM := Lib.hid hcm
              have CL := Lib.hid hcl
              have HLQ := Lib.hid (fun W => show (binOp .leq 9 (.string n1) (.string n2)).run Try.prog W = .ok (.bool false) W by rw [run_str_leq, hri]; rfl)
              obtain ⟨m1, hm1'⟩ : ∃ x, x = m - 1 := ⟨_, rfl⟩
              have hmi : (m1 : Int) = (m : Int) - 1 := by omega
              have HW3 := Lib.hid (show IntKind.i64.wrap ((m : Int) - 1) = (m1 : Int) by rw [IntKind.wrap_i64]; omega)
              have HM1 := Lib.hid (show (m1 : Int) < (ML : Int) ∧ (0 : Int) ≤ (m1 : Int) by omega)
              have HM0 := Lib.hid (show (m : Int) < (ML : Int) ∧ (0 : Int) ≤ (m : Int) by omega)
              have hlm' : (m : Int) < (ML : Int) := HM0.out.1
              rw [← hm1'] at CL
              have HW8 := Lib.hid hw7
              clear s7 hcm hcl hcl' hri hn1 hn2 hm1' hmi hw7 hkk
              go_upto_region 19 with fail
              refine wp_region_y (R := KindB 29) (by kernel_rfl) 10 (by decide) (fun i => [70, 71, 72, 73, 74, 75, 76, 77, 78, 79].getD i 0) (by kernel_rfl) (by kernel_rfl) (by kernel_rfl) wr.heap.size (Nat.le_refl _) [.val (.slice (some ⟨sb, so, none⟩) ML nq6), .val (.int .i64 (m : Int)), .val (.pointer (some ⟨sb, so + m, none⟩)), .val (.string n1), .val (.slice (some ⟨sb, so, none⟩) ML nq6), .val (.int .i64 (m : Int)), .val (.int .i64 (m1 : Int)), .val (.pointer (some ⟨sb, so + m1, none⟩)), .val (.string n2), .val (.bool false)] (fun j => if j = 10 then 11 else 10) ?_ ?_
              · refine ⟨?_, ?_, ?_, ?_, ?_, ?_, ?_, ?_, ?_, ?_, trivial⟩
                · intro a w' hF hB hd
                  have e12 : a.eval (.tmp 12) = .slice (some ⟨sb, so, none⟩) ML nq6 := hF 12 (by decide +kernel)
                  exact doesY_val rfl (by decide) (ex_move rfl e12) rfl rfl
                · intro a w' hF hB hd
                  have e13 : a.eval (.tmp 13) = .int .i64 (m : Int) := hF 13 (by decide +kernel)
                  exact doesY_val rfl (by decide) (ex_move rfl e13) rfl rfl
                · intro a w' hF hB hd
                  have e70 : a.eval (.tmp 70) = .slice (some ⟨sb, so, none⟩) ML nq6 := hd 0 (by decide +kernel) (.inr (by decide))
                  have f70 : a.tmps[70]?.getD undef = .slice (some ⟨sb, so, none⟩) ML nq6 := by rw [← Array.getD_eq_getD_getElem?]; exact e70
                  have e71 : a.eval (.tmp 71) = .int .i64 (m : Int) := hd 1 (by decide +kernel) (.inr (by decide))
                  have f71 : a.tmps[71]?.getD undef = .int .i64 (m : Int) := by rw [← Array.getD_eq_getD_getElem?]; exact e71
                  have hkn := HM0.out.1
                  have hk0 := HM0.out.2
                  exact doesY_val (v := .pointer (some ⟨sb, so + m, none⟩)) rfl (by decide) (by unfold execOp; simp only [e70, e71]; go_simp) rfl rfl
                · intro a w' hF hB hd
                  have e72 : a.eval (.tmp 72) = .pointer (some ⟨sb, so + m, none⟩) := hd 2 (by decide +kernel) (.inr (by decide))
                  have cc := (cell_below CM.out hB)
                  exact doesY_val (v := .string n1) rfl (by decide) (by unfold execOp; simp only [e72]; go_simp) rfl rfl
                · intro a w' hF hB hd
                  have e12 : a.eval (.tmp 12) = .slice (some ⟨sb, so, none⟩) ML nq6 := hF 12 (by decide +kernel)
                  exact doesY_val rfl (by decide) (ex_move rfl e12) rfl rfl
                · intro a w' hF hB hd
                  have e13 : a.eval (.tmp 13) = .int .i64 (m : Int) := hF 13 (by decide +kernel)
                  exact doesY_val rfl (by decide) (ex_move rfl e13) rfl rfl
                · intro a w' hF hB hd
                  have e75 : a.eval (.tmp 75) = .int .i64 (m : Int) := hd 5 (by decide +kernel) (.inr (by decide))
                  exact doesY_val rfl (by decide) (ex_binOp rfl e75 rfl (by go_simp) (by have := HW3.out; go_simp)) rfl rfl
                · intro a w' hF hB hd
                  have e74 : a.eval (.tmp 74) = .slice (some ⟨sb, so, none⟩) ML nq6 := hd 4 (by decide +kernel) (.inr (by decide))
                  have f74 : a.tmps[74]?.getD undef = .slice (some ⟨sb, so, none⟩) ML nq6 := by rw [← Array.getD_eq_getD_getElem?]; exact e74
                  have e76 : a.eval (.tmp 76) = .int .i64 (m1 : Int) := hd 6 (by decide +kernel) (.inr (by decide))
                  have f76 : a.tmps[76]?.getD undef = .int .i64 (m1 : Int) := by rw [← Array.getD_eq_getD_getElem?]; exact e76
                  have hkn := HM1.out.1
                  have hk0 := HM1.out.2
                  exact doesY_val (v := .pointer (some ⟨sb, so + m1, none⟩)) rfl (by decide) (by unfold execOp; simp only [e74, e76]; go_simp) rfl rfl
                · intro a w' hF hB hd
                  have e77 : a.eval (.tmp 77) = .pointer (some ⟨sb, so + m1, none⟩) := hd 7 (by decide +kernel) (.inr (by decide))
                  have cc := (cell_below CL.out hB)
                  exact doesY_val (v := .string n2) rfl (by decide) (by unfold execOp; simp only [e77]; go_simp) rfl rfl
                · intro a w' hF hB hd
                  have e73 : a.eval (.tmp 73) = .string n1 := hd 3 (by decide +kernel) (.inr (by decide))
                  have e78 : a.eval (.tmp 78) = .string n2 := hd 8 (by decide +kernel) (.inr (by decide))
                  exact doesY_val rfl (by decide) (ex_binOp rfl e73 e78 (eqG_str _ _ _ _ _ _) (HLQ.out _)) rfl rfl
              · intro vs w8 hB hS hv _
                have y9 : vs 9 = .bool false := hv 9 (by decide) (by decide)
                simp only [List.take_succ_cons, List.take_zero, List.drop_succ_cons, List.drop_zero, putOps, Act.put, List.setIfInBounds_toArray, List.set_cons_zero, List.set_cons_succ, y9]
                have W9 := Lib.hid (HW8.out.on hB)
                clear hv hB hS y9
                go_wp2_with fail
                exact ⟨⟨m + 1, by omega, by go_num, W9.out⟩, by simp [intOf]; omega⟩
            · have hlm' : ¬ (m : Int) < (ML : Int) := by omega
              clear hw7 hkk
              go_wp2_with ((fail_if_success (with_reducible show bodyPost _ _ _ _ _ _)); first
                | ((with_reducible show wpList _ _ _ (Oper.mk (some 80) (.load _ _) _ _ _ _ :: _) _ _); refine wpList_load_mid rfl 29 (.tmp 5) rfl bA 0 rfl L1 _ XA7.out.range Try.underlying29 rfl (by rw [L134.out]; exact infoCtC) ?_)
                | ((with_reducible show wpList _ _ _ (Oper.mk (some 81) (.load _ _) _ _ _ _ :: _) _ _); refine wpList_load_mid rfl 29 (.tmp 6) rfl bB 0 rfl L2 _ XB7.out.range Try.underlying29 rfl (by rw [L234.out]; exact infoCtC) ?_)
                | (go_at_call 22; (with_reducible refine (HSM.out _ VA7.out VB7.out).mono ?_); rintro e w8 ⟨rfl, b8⟩; have W8 := Lib.hid (W7.out.on b8); have XA8 := Lib.hid (XA7.out.below b8 XA7.out.lt); have VA8 := Lib.hid (VA7.out.below b8); clear b8)
                | ((with_reducible show wpList _ _ _ (Oper.mk (some 84) (.load _ _) _ _ _ _ :: _) _ _); refine wpList_load_wanted rfl 29 (.tmp 5) rfl bA 0 rfl L1 _ XA8.out.range Try.underlying29 rfl (by rw [L134.out]; exact infoCtC) ?_)
                | (go_at_call 15; (with_reducible refine (HCK.out _ VA8.out).mono ?_); rintro e w9 ⟨rfl, b9⟩; have W9 := Lib.hid (W8.out.on b9); clear b9)
                | (go_at_call 11; (with_reducible refine (HAW.out _).mono ?_); rintro e w3 ⟨rfl, b3⟩; have W3 := Lib.hid (W9.out.on b3); clear b3))
              go_ret
              exact ⟨rfl, W3.out⟩
set_option linter.unusedVariables false in
set_option maxHeartbeats 400000 in
set_option maxRecDepth 100000 in
theorem lifted (os : Os) (started : os.Started) (H : Type) (enc : TypeId × Value → H) :
    ReturnsInHanded {} Try.checked os 9 .any (Rows.catalogOrderSpec.pre6 enc Try.prog Try.f9 Rows.catalogOrderRow.domain false) (Rows.catalogOrderSpec.post enc Try.prog Try.f9 false true false false) := by
  refine returnsInHanded_of_change_sized (C := Try.checked) own started (by kernel_rfl) Try.func9
    (ChangeSpec.witness6 (enc := enc) (C := Try.checked) false ⟨#[], #[.slice none 0 0, .int .u32 0], []⟩ 8 (by kernel_rfl) (by kernel_rfl) (by kernel_rfl) (by kernel_rfl)) ?_
  intro W base args ds gs before hval0 hW _ hsz0 _
  have hsz : (DataW.weightsEach Try.prog (Try.f9.params.toList ++ Rows.catalogOrderSpec.plain.varTypes Try.prog) (ds ++ gs)).all (· ≤ reachBytes) = true := hsz0
  clear hsz0
  have hval : ∀ (j : Nat) t v, Try.f9.params[j]? = some t → args[j]? = some v → Value.okWide Try.prog W .any base t v := hval0
  have hW' := hW
  obtain ⟨p, q, hA0, hV, rfl, _, _⟩ := hW
  have hA : DataW.TrodAll enc Try.prog W 0 (fun _ => true) true Try.f9.params.toList args.toList ds p := hA0
  rw [Try.params9] at hA hval hsz
  obtain ⟨v0, vs0, d0, ds0, p0, q0, hargs, rfl, rfl, g0, r0⟩ := trodAll_cons hA
  obtain ⟨v1, vs1, d1, ds1, p1, q1, rfl, rfl, rfl, g1, r1⟩ := trodAll_cons r0
  obtain ⟨rfl, rfl, rfl⟩ := trodAll_nil r1
  obtain rfl : args = #[v0, v1] := by cases args; simp_all
  obtain ⟨rfl, rfl⟩ := trodVars_none hV
  obtain ⟨l0, h0⟩ := open_strsA Try.underlying57 Try.underlying9 cells9 (hval 0 57 v0 rfl rfl) g0 (fun elems spare e => sized_slice hsz (j := 0) (t := 57) (e := 9) rfl (by rw [← e]; rfl) Try.underlying57) (of_decide_eq_true (by kernel_rfl))
  obtain ⟨a1, rfl, rfl, rfl, w1⟩ := open_int Try.underlying22 (hval 1 22 v1 rfl rfl) g1
  clear hA0 hval0
  have hlt := hW'.lt
  refine (walk W v0 l0 h0 a1 w1).mono fun e W' ⟨he, hb⟩ => ?_
  subst he
  have hargs : DataW.TrodAll enc Try.prog W' 0 (fun b => decide (b < W.heap.size)) true _ _ _ _ := (trodAll_cons_mk (Below.trod laidOut (by kernel_rfl) (of_decide_eq_true (by kernel_rfl)) g0 hb (fun x hx => hlt x (by simp [hx]))) (trodAll_cons_mk (shut_int Try.underlying22 w1) trodAll_mk0))
  simp only [List.append_nil] at hW' hargs
  exact ⟨_, rfl, post_law hW' (trodAll_cons_mk (shut_bool Try.underlying4 _) trodAll_mk0) hargs rfl hb⟩
theorem over : Rows.catalogOrderRow.holds Try.pinned (OpenSpec.ofChange Rows.catalogOrderSpec) :=
  OpenClaim.holds_of_wide 9 Try.f9 rfl rfl rfl rfl rfl rfl rfl ⟨rfl, rfl, rfl, rfl, rfl⟩ rfl rfl rfl rfl rfl (by kernel_rfl) Try.func9 (by kernel_rfl)
    (of_decide_eq_true (by kernel_rfl)) (by unfold Func.isWrapper; first | (rw [if_pos (by decide +kernel)]; kernel_rfl) | (rw [if_neg (by decide +kernel)]; exact ⟨rfl, rfl⟩))
    (fun os started H enc _ => lifted os started H enc)

/-- The given statement. -/
theorem proved : Rows.CatalogOrderSaid := over
end Go.Proofs.Ytkagapgganoomaa.catalogOrder

/- OctetBack: for any numbers and any text of up to 255 bytes what is laid one behind the other is read as it was, and nothing is left; a longer text is refused; and the law's closed case holds. No condition. -/
import Derived.Test.YtngflmdlgaeokaaRows
import Derived.Test.YtngflmdlgaeokaaTextCalls
import Derived.Test.YtngflmdlgaeokaaOctAwake
import Derived.Test.YtngflmdlgaeokaaBackMath
import Derived.Test.YtngflmdlgaeokaaArgs
import Derived.WalkKit
import Derived.ProofKit
import Derived.OpenShut
import Derived.SizedLaws
import Derived.Carry
namespace Go.Proofs.Ytngflmdlgaeokaa.octetBack
open Go.ChangeShapes Go.WideShapes Go.ChangeAt Go.RowKit

theorem own : ownKnob Try.prog.godebug = none := by kernel_rfl
set_option linter.unusedVariables false in
set_option maxHeartbeats 1000000 in
theorem walk (w : World) (a0 : Int) (w0 : (Lit.int .u32 a0).wf = true) (a1 : Int) (w1 : (Lit.int .u64 a1).wf = true) (a2 : ByteArray) (w2 : a2.size ≤ maxLen) :
    Calls Try.prog 7 #[.int .u32 a0, .int .u64 a1, .string a2] w fun e w' => e = .returned (.bool true) ∧ Below w.heap.size w w' := by
  obtain ⟨n0, h0, rfl⟩ := u32_of w0
  obtain ⟨n1, h1, rfl⟩ := u64_of w1
  by_cases hs : 255 < a2.size
  · go_enter Try.func7, Try.ntmps7
    go_wp2_with (first
      | (go_at_call 15; refine (text_long a2 hs _).mono ?_; rintro ev w1 ⟨rfl, k2⟩; have B1 := Lib.hid k2; clear k2)
      | (go_at_call 14; refine (awake_any _).mono ?_; rintro ev w1 ⟨rfl, k2⟩; have B3 := Lib.hid k2; clear k2))
    go_ret
    exact ⟨rfl, B1.out.on B3.out⟩
  · have hs' : a2.size ≤ 255 := by omega
    have e8 : ((n0 % 256 : Nat) : Int) = (n0 : Int) % 256 := by omega
    have e16 : ((n0 % 65536 : Nat) : Int) = (n0 : Int) % 65536 := by omega
    obtain ⟨S, hS⟩ : ∃ S, S = sb a2 := ⟨_, rfl⟩
    have hSl : S.length = a2.size := by rw [hS, sb_len]
    have hSs : bstr S = a2 := by rw [hS]; exact bstr_sb a2
    have hp16 : ∀ W, Calls Try.prog 10 #[.int .u16 ((n0 : Int) % 65536)] W fun e w' => ∃ v, e = .returned v ∧ Own w' W.heap.size v (be (n0 % 65536) 2) ∧ Below W.heap.size W w' := fun W => by
      rw [← e16]; exact put16_any (n0 % 65536) (by omega) W
    have hnew : ∀ W : World, Own (W.alloc (.cells #[.int .u8 ((n0 : Int) % 256)] 5)) W.heap.size (.slice (some ⟨W.heap.size, 0, none⟩) 1 1) [n0 % 256] := fun W => by
      have h := own_new W [n0 % 256] (fun k => by cases k with | zero => exact Nat.mod_lt _ (by omega) | succ k => exact Nat.zero_lt_succ _) (by simp) rfl (Nat.le_refl _)
      rw [← e8]; exact h
    have ru8 : ∀ W rb, Rdr W rb ([n0 % 256] ++ be (n0 % 65536) 2 ++ be n0 4 ++ be n1 8 ++ (a2.size :: S)) 0 → Calls Try.prog 25 #[.pointer (some ⟨rb, 0, none⟩)] W fun ev w' => ev = .returned (.int .u8 ((n0 : Int) % 256)) ∧ Rdr w' rb (be (n0 % 65536) 2 ++ (be n0 4 ++ (be n1 8 ++ (a2.size :: S)))) 0 ∧ W.grownBy w' (some rb) := fun W rb hW => by
      have h := u8_any W rb _ 0 hW
      rw [List.append_assoc, List.append_assoc, List.append_assoc] at h
      rw [rpGot_app [n0 % 256] _ (n := 1) rfl, rpLeft_app [n0 % 256] _ (n := 1) rfl, rpErr_app [n0 % 256] _ (n := 1) rfl] at h
      rw [← e8]
      have e : num [n0 % 256] = n0 % 256 := by simp [num, numStep]
      rw [e] at h; exact h
    have ru16 : ∀ W rb, Rdr W rb (be (n0 % 65536) 2 ++ (be n0 4 ++ (be n1 8 ++ (a2.size :: S)))) 0 → Calls Try.prog 26 #[.pointer (some ⟨rb, 0, none⟩)] W fun ev w' => ev = .returned (.int .u16 ((n0 : Int) % 65536)) ∧ Rdr w' rb (be n0 4 ++ (be n1 8 ++ (a2.size :: S))) 0 ∧ W.grownBy w' (some rb) := fun W rb hW => by
      have h := u16_any W rb _ 0 hW
      rw [rpGot_app (be (n0 % 65536) 2) _ (by rw [be_len]; rfl), rpLeft_app (be (n0 % 65536) 2) _ (by rw [be_len]; rfl), rpErr_app (be (n0 % 65536) 2) _ (by rw [be_len]; rfl), num_be 2 _ (by omega) (by omega)] at h
      rw [← e16]; exact h
    have ru32 : ∀ W rb, Rdr W rb (be n0 4 ++ (be n1 8 ++ (a2.size :: S))) 0 → Calls Try.prog 27 #[.pointer (some ⟨rb, 0, none⟩)] W fun ev w' => ev = .returned (.int .u32 (n0 : Int)) ∧ Rdr w' rb (be n1 8 ++ (a2.size :: S)) 0 ∧ W.grownBy w' (some rb) := fun W rb hW => by
      have h := u32_any W rb _ 0 hW
      rw [rpGot_app (be n0 4) _ (by rw [be_len]; rfl), rpLeft_app (be n0 4) _ (by rw [be_len]; rfl), rpErr_app (be n0 4) _ (by rw [be_len]; rfl), num_be 4 _ h0 (by omega)] at h
      exact h
    have ru64 : ∀ W rb, Rdr W rb (be n1 8 ++ (a2.size :: S)) 0 → Calls Try.prog 28 #[.pointer (some ⟨rb, 0, none⟩)] W fun ev w' => ev = .returned (.int .u64 (n1 : Int)) ∧ Rdr w' rb (a2.size :: S) 0 ∧ W.grownBy w' (some rb) := fun W rb hW => by
      have h := u64_any W rb _ 0 hW
      rw [rpGot_app (be n1 8) _ (by rw [be_len]; rfl), rpLeft_app (be n1 8) _ (by rw [be_len]; rfl), rpErr_app (be n1 8) _ (by rw [be_len]; rfl), num_be 8 _ h1 (by omega)] at h
      exact h
    have rtx : ∀ W rb, Rdr W rb (a2.size :: S) 0 → Calls Try.prog 29 #[.pointer (some ⟨rb, 0, none⟩), .int .i64 255] W fun ev w' => ev = .returned (.string a2) ∧ Rdr w' rb [] 0 ∧ W.grownBy w' (some rb) := fun W rb hW => by
      have h := rtext_any W rb _ 0 255 hW
      have hm : (S.length : Int) ≤ 255 := by omega
      have e : a2.size :: S = S.length :: (S ++ []) := by rw [List.append_nil, hSl]
      rw [e, rtGot_app S [] hm, rtLeft_app S [] hm, rtErr_app S [] hm, hSs] at h
      exact h
    have ht := fun W => text_short a2 hs' W
    rw [← hS] at ht
    have L1 := Lib.hid (show [n0 % 256].length + (be (n0 % 65536) 2).length ≤ 140737488351232 by simp [be_len])
    have L2 := Lib.hid (show ([n0 % 256] ++ be (n0 % 65536) 2).length + (be n0 4).length ≤ 140737488351232 by simp [be_len])
    have L3 := Lib.hid (show ([n0 % 256] ++ be (n0 % 65536) 2 ++ be n0 4).length + (be n1 8).length ≤ 140737488351232 by simp [be_len])
    have L4 := Lib.hid (show ([n0 % 256] ++ be (n0 % 65536) 2 ++ be n0 4 ++ be n1 8).length + (a2.size :: S).length ≤ 140737488351232 by simp [be_len]; omega)
    have HT := Lib.hid ht
    have HP16 := Lib.hid hp16
    have HNEW := Lib.hid hnew
    have R8 := Lib.hid ru8
    have R16 := Lib.hid ru16
    have R32 := Lib.hid ru32
    have R64 := Lib.hid ru64
    have RT := Lib.hid rtx
    clear ht hp16 hnew ru8 ru16 ru32 ru64 rtx hS hSl hSs e8 e16 hs w0 w1 w2
    go_enter Try.func7, Try.ntmps7
    go_wp2_with (first
      | (go_at_call 15; refine (HT.out _).mono ?_; rintro ev w1 ⟨v1, rfl, k1, k2⟩; have B1 := Lib.hid k2; have T1 := Lib.hid k1.rd; have N1 := Lib.hid (HNEW.out w1); have C1 := Lib.hid ((Below.refl w1.heap.size w1).alloc (Nat.le_refl _) (.cells #[.int .u8 ((n0 : Int) % 256)] 5)); clear k1 k2)
      | (go_at_call 10; refine (HP16.out _).mono ?_; rintro ev w2 ⟨v2, rfl, k1, k2⟩; have P2 := Lib.hid k1.rd; have N2 := Lib.hid (N1.out.below k2); have C2 := Lib.hid (C1.out.trans (k2.mono C1.out.size)); clear k1 k2)
      | (at_builtin; refine wpList_app rfl (.tmp 31) (.tmp 34) rfl w1.heap.size (.slice (some ⟨w1.heap.size, 0, none⟩) 1 1) v2 _ _ rfl rfl N2.out P2.out L1.out C2.out.size ?_; intro v3 w3 ho hg hk; have O3 := Lib.hid ho; have C3 := Lib.hid (C2.out.grown hg C2.out.size (fun k hk => (N2.out.from k hk).1)); clear ho hg hk)
      | (go_at_call 12; refine (put32_any n0 h0 _).mono ?_; rintro ev w4 ⟨v4, rfl, k1, k2⟩; have P4 := Lib.hid k1.rd; have O4 := Lib.hid (O3.out.below k2); have C4 := Lib.hid (C3.out.trans (k2.mono C3.out.size)); clear k1 k2)
      | (at_builtin; refine wpList_app rfl (.tmp 36) (.tmp 38) rfl w1.heap.size v3 v4 _ _ rfl rfl O4.out P4.out L2.out C4.out.size ?_; intro v5 w5 ho hg hk; have O5 := Lib.hid ho; have C5 := Lib.hid (C4.out.grown hg C4.out.size (fun k hk => (O4.out.from k hk).1)); clear ho hg hk)
      | (go_at_call 13; refine (put64_any n1 h1 _).mono ?_; rintro ev w6 ⟨v6, rfl, k1, k2⟩; have P6 := Lib.hid k1.rd; have O6 := Lib.hid (O5.out.below k2); have C6 := Lib.hid (C5.out.trans (k2.mono C5.out.size)); clear k1 k2)
      | (at_builtin; refine wpList_app rfl (.tmp 39) (.tmp 41) rfl w1.heap.size v5 v6 _ _ rfl rfl O6.out P6.out L3.out C6.out.size ?_; intro v7 w7 ho hg hk; have O7 := Lib.hid ho; have C7 := Lib.hid (C6.out.grown hg C6.out.size (fun k hk => (O6.out.from k hk).1)); clear ho hg hk)
      | (at_builtin; refine wpList_app rfl (.tmp 42) (.tmp 43) rfl w1.heap.size v7 v1 _ _ rfl rfl O7.out (T1.out.below C7.out) L4.out C7.out.size ?_; intro v8 w8 ho hg hk; have O8 := Lib.hid ho; have C8 := Lib.hid (C7.out.grown hg C7.out.size (fun k hk => (O7.out.from k hk).1)); clear ho hg hk)
      | (go_at_call 21; refine (read_any _ v8 _ O8.out.rd).mono ?_; rintro ev w9 ⟨rb, rfl, k1, k2, k3⟩; have Q9 := Lib.hid k1; have C9 := Lib.hid (C8.out.trans (k2.mono C8.out.size)); have hrb : w1.heap.size ≤ rb := Nat.le_trans C8.out.size k3; clear k1 k2 k3)
      | (go_at_call 25; refine (R8.out _ rb Q9.out).mono ?_; rintro ev w10 ⟨rfl, k1, k2⟩; have Q10 := Lib.hid k1; have C10 := Lib.hid (C9.out.grown k2 C9.out.size (fun k hk => by cases hk; exact hrb)); clear k1 k2)
      | (go_at_call 26; refine (R16.out _ rb Q10.out).mono ?_; rintro ev w11 ⟨rfl, k1, k2⟩; have Q11 := Lib.hid k1; have C11 := Lib.hid (C10.out.grown k2 C10.out.size (fun k hk => by cases hk; exact hrb)); clear k1 k2)
      | (go_at_call 27; refine (R32.out _ rb Q11.out).mono ?_; rintro ev w12 ⟨rfl, k1, k2⟩; have Q12 := Lib.hid k1; have C12 := Lib.hid (C11.out.grown k2 C11.out.size (fun k hk => by cases hk; exact hrb)); clear k1 k2)
      | (go_at_call 28; refine (R64.out _ rb Q12.out).mono ?_; rintro ev w13 ⟨rfl, k1, k2⟩; have Q13 := Lib.hid k1; have C13 := Lib.hid (C12.out.grown k2 C12.out.size (fun k hk => by cases hk; exact hrb)); clear k1 k2)
      | (go_at_call 29; refine (RT.out _ rb Q13.out).mono ?_; rintro ev w14 ⟨rfl, k1, k2⟩; have Q14 := Lib.hid k1; have C14 := Lib.hid (C13.out.grown k2 C13.out.size (fun k hk => by cases hk; exact hrb)); clear k1 k2)
      | (go_at_call 24; refine (left_any _ rb [] 0 Q14.out).mono ?_; rintro ev w15 ⟨rfl, rfl⟩)
      | (go_at_call 23; refine (err_any _ rb [] 0 Q14.out).mono ?_; rintro ev w15 ⟨rfl, rfl⟩)
      | (go_at_call 14; refine (awake_any _).mono ?_; rintro ev w16 ⟨rfl, k2⟩; have B3 := Lib.hid k2; clear k2))
    go_ret
    exact ⟨rfl, B1.out.on (C14.out.trans (B3.out.mono C14.out.size))⟩
set_option linter.unusedVariables false in
set_option maxHeartbeats 400000 in
set_option maxRecDepth 100000 in
theorem lifted (os : Os) (started : os.Started) (H : Type) (enc : TypeId × Value → H) :
    ReturnsInHanded {} Try.checked os 7 .any (Rows.octetBackSpec.pre6 enc Try.prog Try.f7 Rows.octetBackRow.domain false) (Rows.octetBackSpec.post enc Try.prog Try.f7 false true false false) := by
  refine returnsInHanded_of_change_sized (C := Try.checked) own started (by kernel_rfl) Try.func7
    (ChangeSpec.witness6 (enc := enc) (C := Try.checked) false ⟨#[], #[.int .u32 0, .int .u64 0, .string ByteArray.empty], []⟩ 8 (by kernel_rfl) (by kernel_rfl) (by kernel_rfl) (by kernel_rfl)) ?_
  intro W base args ds gs before hval0 hW _ hsz0 _
  have hsz : (DataW.weightsEach Try.prog (Try.f7.params.toList ++ Rows.octetBackSpec.plain.varTypes Try.prog) (ds ++ gs)).all (· ≤ reachBytes) = true := hsz0
  clear hsz0
  have hval : ∀ (j : Nat) t v, Try.f7.params[j]? = some t → args[j]? = some v → Value.okWide Try.prog W .any base t v := hval0
  have hW' := hW
  obtain ⟨p, q, hA0, hV, rfl, _, _⟩ := hW
  have hA : DataW.TrodAll enc Try.prog W 0 (fun _ => true) true Try.f7.params.toList args.toList ds p := hA0
  rw [Try.params7] at hA hval hsz
  obtain ⟨v0, vs0, d0, ds0, p0, q0, hargs, rfl, rfl, g0, r0⟩ := trodAll_cons hA
  obtain ⟨v1, vs1, d1, ds1, p1, q1, rfl, rfl, rfl, g1, r1⟩ := trodAll_cons r0
  obtain ⟨v2, vs2, d2, ds2, p2, q2, rfl, rfl, rfl, g2, r2⟩ := trodAll_cons r1
  obtain ⟨rfl, rfl, rfl⟩ := trodAll_nil r2
  obtain rfl : args = #[v0, v1, v2] := by cases args; simp_all
  obtain ⟨rfl, rfl⟩ := trodVars_none hV
  obtain ⟨a0, rfl, rfl, rfl, w0⟩ := open_int Try.underlying23 (hval 0 23 v0 rfl rfl) g0
  obtain ⟨a1, rfl, rfl, rfl, w1⟩ := open_int Try.underlying24 (hval 1 24 v1 rfl rfl) g1
  obtain ⟨a2, rfl, rfl, rfl, w2⟩ := Go.ChangeMaps.open_string Try.underlying9 (hval 2 9 v2 rfl rfl) g2
  clear hA0 hval0
  have hlt := hW'.lt
  refine (walk W a0 w0 a1 w1 a2 w2).mono fun e W' ⟨he, hb⟩ => ?_
  subst he
  have hargs : DataW.TrodAll enc Try.prog W' 0 (fun b => decide (b < W.heap.size)) true _ _ _ _ := (trodAll_cons_mk (shut_int Try.underlying23 w0) (trodAll_cons_mk (shut_int Try.underlying24 w1) (trodAll_cons_mk (Go.ChangeMaps.shut_string Try.underlying9 w2) trodAll_mk0)))
  simp only [List.append_nil] at hW' hargs
  exact ⟨_, rfl, post_law hW' (trodAll_cons_mk (shut_bool Try.underlying4 _) trodAll_mk0) hargs rfl hb⟩

theorem over : Rows.octetBackRow.holds Try.pinned (OpenSpec.ofChange Rows.octetBackSpec) :=
  OpenClaim.holds_of_wide 7 Try.f7 rfl rfl rfl rfl rfl rfl rfl ⟨rfl, rfl, rfl, rfl, rfl⟩ rfl rfl rfl rfl rfl (by kernel_rfl) Try.func7 (by kernel_rfl)
    (of_decide_eq_true (by kernel_rfl)) (by unfold Func.isWrapper; first | (rw [if_pos (by decide +kernel)]; kernel_rfl) | (rw [if_neg (by decide +kernel)]; exact ⟨rfl, rfl⟩))
    (fun os started H enc _ => lifted os started H enc)

/-- The given statement. -/
theorem proved : Rows.OctetBackSaid :=
  over
end Go.Proofs.Ytngflmdlgaeokaa.octetBack

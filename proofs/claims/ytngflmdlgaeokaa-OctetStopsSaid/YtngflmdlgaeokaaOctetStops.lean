/- OctetStops: behind its first error a reader of any bytes tells noughts, and that error, whatever calls come; a reader that is not there tells noughts too; and the law's closed case holds. No condition. -/
import Derived.Test.YtngflmdlgaeokaaRows
import Derived.Test.YtngflmdlgaeokaaOctAwake
import Derived.Test.YtngflmdlgaeokaaArgs
import Derived.WalkKit
import Derived.ProofKit
import Derived.OpenShut
import Derived.SizedLaws
import Derived.Carry
namespace Go.Proofs.Ytngflmdlgaeokaa.octetStops
open Go.ChangeShapes Go.WideShapes Go.ChangeAt Go.RowKit
theorem got_err (n : Int) : rpGot [] 3 n = [] := by unfold rpGot; rw [if_neg (fun h => by cases h.1)]
theorem left_err (n : Int) : rpLeft [] 3 n = [] := by unfold rpLeft; rw [if_neg (fun h => by cases h.1)]
theorem err_err (n : Int) : rpErr [] 3 n = 3 := by unfold rpErr; rw [if_neg (by omega)]
theorem tgot_err (n : Int) : rtGot [] 3 n = [] := by unfold rtGot; rw [if_neg (fun h => by cases h.1)]
theorem tleft_err (n : Int) : rtLeft [] 3 n = [] := by unfold rtLeft; rw [if_neg (fun h => by cases h.1)]
theorem terr_err (n : Int) : rtErr [] 3 n = 3 := by unfold rtErr; rw [if_neg (by omega)]
theorem u8_err (W : World) (rb : Nat) (h : Rdr W rb [] 3) : Calls Try.prog 25 #[.pointer (some ⟨rb, 0, none⟩)] W fun ev w' => ev = .returned (.int .u8 0) ∧ Rdr w' rb [] 3 ∧ W.grownBy w' (some rb) := by
  have k := u8_any W rb [] 3 h
  rw [got_err, left_err, err_err] at k; exact k
theorem u16_err (W : World) (rb : Nat) (h : Rdr W rb [] 3) : Calls Try.prog 26 #[.pointer (some ⟨rb, 0, none⟩)] W fun ev w' => ev = .returned (.int .u16 0) ∧ Rdr w' rb [] 3 ∧ W.grownBy w' (some rb) := by
  have k := u16_any W rb [] 3 h
  rw [got_err, left_err, err_err] at k; exact k
theorem u32_err (W : World) (rb : Nat) (h : Rdr W rb [] 3) : Calls Try.prog 27 #[.pointer (some ⟨rb, 0, none⟩)] W fun ev w' => ev = .returned (.int .u32 0) ∧ Rdr w' rb [] 3 ∧ W.grownBy w' (some rb) := by
  have k := u32_any W rb [] 3 h
  rw [got_err, left_err, err_err] at k; exact k
theorem u64_err (W : World) (rb : Nat) (h : Rdr W rb [] 3) : Calls Try.prog 28 #[.pointer (some ⟨rb, 0, none⟩)] W fun ev w' => ev = .returned (.int .u64 0) ∧ Rdr w' rb [] 3 ∧ W.grownBy w' (some rb) := by
  have k := u64_any W rb [] 3 h
  rw [got_err, left_err, err_err] at k; exact k
theorem take_err (W : World) (rb : Nat) (n : Int) (h : Rdr W rb [] 3) : Calls Try.prog 30 #[.pointer (some ⟨rb, 0, none⟩), .int .i64 n] W fun ev w' => (∃ ao cap, ev = .returned (.slice ao 0 cap)) ∧ Rdr w' rb [] 3 ∧ W.grownBy w' (some rb) := by
  refine (take_any W rb [] 3 n h).mono fun ev w' ⟨v, e, h1, h2, h3⟩ => ?_
  rw [left_err, err_err] at h2
  rw [got_err] at h1
  obtain ⟨ao, cap, e2, _⟩ := h1.rd.shape
  exact ⟨⟨ao, cap, by rw [e, e2]; rfl⟩, h2, h3⟩
theorem text_err (W : World) (rb : Nat) (n : Int) (h : Rdr W rb [] 3) : Calls Try.prog 29 #[.pointer (some ⟨rb, 0, none⟩), .int .i64 n] W fun ev w' => ev = .returned (.string ⟨#[]⟩) ∧ Rdr w' rb [] 3 ∧ W.grownBy w' (some rb) := by
  have k := rtext_any W rb [] 3 n h
  rw [tgot_err, tleft_err, terr_err] at k; exact k
theorem take_end (W : World) (rb : Nat) (l : List Nat) (h : Rdr W rb l 0) : Calls Try.prog 30 #[.pointer (some ⟨rb, 0, none⟩), .int .i64 ((l.length : Int) + 1)] W fun ev w' => (∃ ao cap, ev = .returned (.slice ao 0 cap)) ∧ Rdr w' rb [] 3 ∧ W.grownBy w' (some rb) := by
  have hk : lookP ((l.length : Int) + 1) l.length = 3 := by unfold lookP; rw [if_neg (by omega), if_pos (by omega)]
  refine (take_any W rb l 0 ((l.length : Int) + 1) h).mono fun ev w' ⟨v, e, h1, h2, h3⟩ => ?_
  have e1 : rpGot l 0 ((l.length : Int) + 1) = [] := by unfold rpGot; rw [if_neg (by rw [hk]; exact fun h => by cases h.2)]
  have e2 : rpLeft l 0 ((l.length : Int) + 1) = [] := by unfold rpLeft; rw [if_neg (by rw [hk]; exact fun h => by cases h.2)]
  have e3 : rpErr l 0 ((l.length : Int) + 1) = 3 := by unfold rpErr; rw [if_pos rfl, hk]
  rw [e2, e3] at h2
  rw [e1] at h1
  obtain ⟨ao, cap, e4, _⟩ := h1.rd.shape
  exact ⟨⟨ao, cap, by rw [e, e4]; rfl⟩, h2, h3⟩
theorem own : ownKnob Try.prog.godebug = none := by kernel_rfl
set_option linter.unusedVariables false in
set_option maxHeartbeats 2000000 in
set_option maxRecDepth 100000 in
theorem walk (w : World) (v0 : Value) (l0 : List Nat) (h0 : Rd w v0 l0) (v1 : Value) (l1 : List (Nat × Int)) (h1 : Acts w v1 l1) :
    Calls Try.prog 9 #[v0, v1] w fun e w' => e = .returned (.bool true) ∧ Below w.heap.size w w' := by
  obtain ⟨ao, cap, rfl, hcap⟩ := h0.shape
  obtain ⟨co, ccap, rfl, hcm, hac⟩ := h1
  have hfit := h0.fits
  have HA : Hid (Acts w (.slice co l1.length ccap) l1) := ⟨co, ccap, rfl, hcm, hac⟩
  have H0 := Lib.hid h0
  unfold maxLen at hcm
  clear h0 hac
  go_enter Try.func9, Try.ntmps9
  by_cases hbig : (1048576 : Int) < l0.length
  · go_wp2_with (first
      | (go_at_call 21; refine (read_any _ _ _ H0.out).mono ?_; rintro ev w1 ⟨rb, rfl, k1, k2, k3⟩; have B1 := Lib.hid k2; clear k1 k2 k3)
      | (go_at_call 14; refine (awake_any _).mono ?_; rintro ev w2 ⟨rfl, k2⟩; have B3 := Lib.hid k2; clear k2))
    go_ret
    exact ⟨rfl, B1.out.on B3.out⟩
  · go_wp2_with (first
      | (go_at_call 21; refine (read_any _ _ _ H0.out).mono ?_; rintro ev w1 ⟨rb, rfl, k1, k2, k3⟩; have Q1 := Lib.hid k1; have B1 := Lib.hid k2; have hrb : w.heap.size ≤ rb := k3; clear k1 k2 k3)
      | (go_at_call 30; refine (take_end _ rb l0 Q1.out).mono ?_; rintro ev w2 ⟨⟨a2, c2, rfl⟩, k1, k2⟩; have Q2 := Lib.hid k1; have B2 := Lib.hid (B1.out.grown k2 B1.out.size (fun k hk => by cases hk; exact hrb)); clear k1 k2)
      | (go_at_call 23; refine (err_any _ rb [] 3 Q2.out).mono ?_; rintro ev w3 ⟨rfl, rfl⟩))
    go_loopw [6] (fun i wr => ∃ k : Nat, k ≤ l1.length ∧ i = .int .i64 k ∧ Rdr wr rb [] 3 ∧ Below w.heap.size w wr) (fun i _ => l1.length - (intOf i).toNat)
    case atStart => exact ⟨0, Nat.zero_le _, rfl, Q2.out, B2.out⟩
    case round =>
      clear Q2 B2 Q1 B1
      obtain ⟨k, hk, rfl, q0, b0⟩ := hrel
      have Q := Lib.hid q0
      have B := Lib.hid b0
      clear q0 b0
      by_cases hlt : k < l1.length
      · obtain ⟨ab, aoff, rfl, _, _, hc⟩ := HA.out.at_ k hlt
        have hab := World.block_lt_of_cell? w _ hc
        obtain ⟨n, hn⟩ : ∃ n, n = (l1.getD k (0, 0)).2 := ⟨_, rfl⟩
        rw [← hn] at hc
        have HC := Lib.hid hc
        clear hc hn
        go_wp2_with (first
          | (go_at_call 25; refine (u8_err _ rb Q.out).mono ?_; rintro ev w11 ⟨rfl, k1, k2⟩; have Q1 := Lib.hid k1; have B1 := Lib.hid (B.out.grown k2 B.out.size (fun k hk => by cases hk; exact hrb)); clear k1 k2)
          | (go_at_call 26; refine (u16_err _ rb Q1.out).mono ?_; rintro ev w12 ⟨rfl, k1, k2⟩; have Q2 := Lib.hid k1; have B2 := Lib.hid (B1.out.grown k2 B1.out.size (fun k hk => by cases hk; exact hrb)); clear k1 k2)
          | (go_at_call 27; refine (u32_err _ rb Q2.out).mono ?_; rintro ev w13 ⟨rfl, k1, k2⟩; have Q3 := Lib.hid k1; have B3 := Lib.hid (B2.out.grown k2 B2.out.size (fun k hk => by cases hk; exact hrb)); clear k1 k2)
          | (go_at_call 28; refine (u64_err _ rb Q3.out).mono ?_; rintro ev w14 ⟨rfl, k1, k2⟩; have Q4 := Lib.hid k1; have b4 := (B3.out.grown k2 B3.out.size (fun k hk => by cases hk; exact hrb)); have hc4 := (b4.cell (p := ⟨ab, aoff + k * 2 + 1, none⟩) hab).trans HC.out; have B4 := Lib.hid b4; clear k1 k2 b4)
          | (go_at_call 30; refine (take_err _ rb n Q4.out).mono ?_; rintro ev w15 ⟨⟨a5, c5, rfl⟩, k1, k2⟩; have Q5 := Lib.hid k1; have b5 := (B4.out.grown k2 B4.out.size (fun k hk => by cases hk; exact hrb)); have hc5 := (b5.cell (p := ⟨ab, aoff + k * 2 + 1, none⟩) hab).trans HC.out; have B5 := Lib.hid b5; clear k1 k2 b5)
          | (go_at_call 29; refine (text_err _ rb n Q5.out).mono ?_; rintro ev w16 ⟨rfl, k1, k2⟩; have Q6 := Lib.hid k1; have B6 := Lib.hid (B5.out.grown k2 B5.out.size (fun k hk => by cases hk; exact hrb)); clear k1 k2)
          | (go_at_call 24; refine (left_any _ rb [] 3 Q6.out).mono ?_; rintro ev w17 ⟨rfl, rfl⟩)
          | (go_at_call 23; refine (err_any _ rb [] 3 Q6.out).mono ?_; rintro ev w17 ⟨rfl, rfl⟩))
        exact ⟨⟨k + 1, by omega, by go_num, Q6.out, B6.out⟩, by simp [intOf]; omega⟩
      · obtain rfl : k = l1.length := by omega
        go_wp2_with (first
          | (go_at_call 23; refine (err_nil _).mono ?_; rintro ev w17 ⟨rfl, rfl⟩)
          | (go_at_call 25; refine (u8_nil _).mono ?_; rintro ev w11 ⟨rfl, k2⟩; have B1 := Lib.hid k2; clear k2)
          | (go_at_call 26; refine (u16_nil _).mono ?_; rintro ev w12 ⟨rfl, k2⟩; have B2 := Lib.hid k2; clear k2)
          | (go_at_call 27; refine (u32_nil _).mono ?_; rintro ev w13 ⟨rfl, k2⟩; have B3 := Lib.hid k2; clear k2)
          | (go_at_call 28; refine (u64_nil _).mono ?_; rintro ev w14 ⟨rfl, k2⟩; have B4 := Lib.hid k2; clear k2)
          | (go_at_call 30; refine (take_nil _ 0).mono ?_; rintro ev w15 ⟨v, rfl, k1, k2⟩; obtain ⟨a5, c5, rfl, _⟩ := k1.rd.shape; have B5 := Lib.hid k2; clear k1 k2)
          | (go_at_call 29; refine (rtext_nil _ 9).mono ?_; rintro ev w16 ⟨rfl, k2⟩; have B6 := Lib.hid k2; clear k2)
          | (go_at_call 24; refine (left_nil _).mono ?_; rintro ev w17 ⟨rfl, rfl⟩)
          | (go_at_call 14; refine (awake_any _).mono ?_; rintro ev w18 ⟨rfl, k2⟩; have B7 := Lib.hid k2; clear k2))
        go_ret
        exact ⟨rfl, B.out.trans ((B1.out.on (B2.out.on (B3.out.on (B4.out.on (B5.out.on (B6.out.on B7.out)))))).mono B.out.size)⟩
set_option linter.unusedVariables false in
set_option maxHeartbeats 400000 in
set_option maxRecDepth 100000 in
theorem lifted (os : Os) (started : os.Started) (H : Type) (enc : TypeId × Value → H) :
    ReturnsInHanded {} Try.checked os 9 .any (Rows.octetStopsSpec.pre6 enc Try.prog Try.f9 Rows.octetStopsRow.domain false) (Rows.octetStopsSpec.post enc Try.prog Try.f9 false true false false) := by
  refine returnsInHanded_of_change_sized (C := Try.checked) own started (by kernel_rfl) Try.func9
    (ChangeSpec.witness6 (enc := enc) (C := Try.checked) false ⟨#[], #[.slice none 0 0, .slice none 0 0], []⟩ 8 (by kernel_rfl) (by kernel_rfl) (by kernel_rfl) (by kernel_rfl)) ?_
  intro W base args ds gs before hval0 hW _ hsz0 _
  have hsz : (DataW.weightsEach Try.prog (Try.f9.params.toList ++ Rows.octetStopsSpec.plain.varTypes Try.prog) (ds ++ gs)).all (· ≤ reachBytes) = true := hsz0
  clear hsz0
  have hval : ∀ (j : Nat) t v, Try.f9.params[j]? = some t → args[j]? = some v → Value.okWide Try.prog W .any base t v := hval0
  have hW' := hW
  obtain ⟨p, q, hA0, hV, rfl, _, _⟩ := hW
  have hA : DataW.TrodAll enc Try.prog W 0 (fun _ => true) true Try.f9.params.toList args.toList ds p := hA0
  rw [Try.params9] at hA hval hsz
  obtain ⟨v0, vs0, d0, ds0, p0, q0, hargs, rfl, rfl, g0, r0⟩ := trodAll_cons hA
  obtain ⟨v1, vs1, d1, ds1, p1, q1, rfl, rfl, rfl, g1, r1⟩ := trodAll_cons r0
  obtain ⟨rfl, rfl, rfl⟩ := trodAll_nil r1
  obtain rfl : args = #[v0, v1] := by cases args; simp_all
  obtain ⟨rfl, rfl⟩ := trodVars_none hV
  obtain ⟨l0, h0⟩ := open_bytes (hval 0 25 v0 rfl rfl) g0 (fun elems spare e => sized_slice hsz (j := 0) (t := 25) (e := 5) rfl (by rw [← e]; rfl) Try.underlying25)
  obtain ⟨l1, h1⟩ := open_acts (hval 1 42 v1 rfl rfl) g1
  clear hA0 hval0
  have hlt := hW'.lt
  refine (walk W v0 l0 h0 v1 l1 h1).mono fun e W' ⟨he, hb⟩ => ?_
  subst he
  have hargs : DataW.TrodAll enc Try.prog W' 0 (fun b => decide (b < W.heap.size)) true _ _ _ _ := (trodAll_cons_mk (Below.trod laidOut (by kernel_rfl) (of_decide_eq_true (by kernel_rfl)) g0 hb (fun x hx => hlt x (by simp [hx]))) (trodAll_cons_mk (Below.trod laidOut (by kernel_rfl) (of_decide_eq_true (by kernel_rfl)) g1 hb (fun x hx => hlt x (by simp [hx]))) trodAll_mk0))
  simp only [List.append_nil] at hW' hargs
  exact ⟨_, rfl, post_law hW' (trodAll_cons_mk (shut_bool Try.underlying4 _) trodAll_mk0) hargs rfl hb⟩

theorem over : Rows.octetStopsRow.holds Try.pinned (OpenSpec.ofChange Rows.octetStopsSpec) :=
  OpenClaim.holds_of_wide 9 Try.f9 rfl rfl rfl rfl rfl rfl rfl ⟨rfl, rfl, rfl, rfl, rfl⟩ rfl rfl rfl rfl rfl (by kernel_rfl) Try.func9 (by kernel_rfl)
    (of_decide_eq_true (by kernel_rfl)) (by unfold Func.isWrapper; first | (rw [if_pos (by decide +kernel)]; kernel_rfl) | (rw [if_neg (by decide +kernel)]; exact ⟨rfl, rfl⟩))
    (fun os started H enc _ => lifted os started H enc)

/-- The given statement. -/
theorem proved : Rows.OctetStopsSaid :=
  over
end Go.Proofs.Ytngflmdlgaeokaa.octetStops

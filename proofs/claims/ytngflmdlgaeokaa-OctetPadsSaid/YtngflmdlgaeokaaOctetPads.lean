/- OctetPads: for any bytes and any int the program lays noughts behind them, or tells the error, as the document's answer does; what is nought is told as it says; the bytes stay as they are; and the law's closed case holds. No condition. -/
import Derived.Test.YtngflmdlgaeokaaRows
import Derived.Test.YtngflmdlgaeokaaPadCalls
import Derived.Test.YtngflmdlgaeokaaOctAwake
import Derived.Test.YtngflmdlgaeokaaArgs
import Derived.WalkKit
import Derived.ProofKit
import Derived.OpenShut
import Derived.SizedLaws
import Derived.Carry
namespace Go.Proofs.Ytngflmdlgaeokaa.octetPads
open Go.ChangeShapes Go.WideShapes Go.ChangeAt Go.RowKit
theorem _root_.Go.Proofs.Ytngflmdlgaeokaa.Own.drewN {w : World} {base : Nat} {v : Value} {l : List Nat} (h : Own w base v l) (n : Nat) : Own (w.drewN n) base v l := ⟨h.1, h.2⟩
theorem own : ownKnob Try.prog.godebug = none := by kernel_rfl
set_option linter.unusedVariables false in
set_option maxHeartbeats 2000000 in
set_option maxRecDepth 100000 in
theorem walk (w : World) (v0 : Value) (l0 : List Nat) (h0 : Rd w v0 l0) (a1 : Int) (w1 : (Lit.int .i64 a1).wf = true) :
    Calls Try.prog 5 #[v0, .int .i64 a1] w fun e w' => e = .returned (.bool true) ∧ Below w.heap.size w w' := by
  obtain ⟨ao, cap, rfl, hcap⟩ := h0.shape
  have hfit := h0.fits
  have H0 := Lib.hid h0
  have LF := Lib.hid (show ([] : List Nat).length + l0.length ≤ 140737488351232 by simpa using hfit)
  have E0 := Lib.hid (own_empty w rfl (Nat.le_refl w.heap.size))
  have A0 := Lib.hid ((Below.refl w.heap.size w).alloc (Nat.le_refl _) (.cells #[] 5))
  clear h0
  by_cases hok : (0 ≤ a1 ∧ a1 ≤ 65536) ∧ (l0.length : Int) ≤ a1
  · obtain ⟨n, rfl⟩ : ∃ n : Nat, a1 = (n : Int) := ⟨a1.toNat, by omega⟩
    have hn : n ≤ 65536 := by omega
    have hl : l0.length ≤ n := by omega
    have hLl := padTo_len l0 n hl
    have hLb := padTo_byte l0 n H0.out.byte
    have HP := Lib.hid (fun W v (h : Rd W v l0) => pad_ok W v l0 n h hn hl)
    have HR := Lib.hid (fun W v (h : Rd W v l0) => rpad_ok W v l0 n h hn hl)
    obtain ⟨L, hL⟩ : ∃ L, L = padTo l0 n := ⟨_, rfl⟩
    rw [← hL] at HP HR hLl hLb
    have HLL := Lib.hid hLl
    have HLB := Lib.hid hLb
    clear hL hLl hLb hok w1
    go_enter Try.func5, Try.ntmps5
    go_wp2_with (first
      | (at_builtin; refine wpList_app rfl (.tmp 11) (.tmp 12) rfl w.heap.size (.slice (some ⟨w.heap.size, 0, none⟩) 0 0) _ [] l0 rfl rfl E0.out (H0.out.alloc _) LF.out A0.out.size ?_; intro v5 w1 ho hg hk; have O1 := Lib.hid ho; have B1 := Lib.hid (A0.out.grown hg A0.out.size (fun k hk => (E0.out.from k hk).1)); clear ho hg hk)
      | (go_at_call 17; refine (HP.out w1 v5 O1.out.rd).mono ?_; rintro ev w2 ⟨rfl, k1, k2⟩; have X2 := Lib.hid k1; have D2 := Lib.hid k2; clear k1 k2)
      | (go_at_call 18; refine (HR.out w2 _ ((H0.out.below B1.out).below D2.out)).mono ?_; rintro ev w3 ⟨v8, rfl, k1, k2⟩; have Y3 := Lib.hid k1; have D3 := Lib.hid k2; clear k1 k2))
    have x3 := X2.out.below D3.out
    have y3 := Y3.out.rd
    have i3 := (O1.out.rd.below D2.out).below D3.out
    have b3 : Below w.heap.size w w3 := B1.out.trans ((D2.out.on D3.out).mono B1.out.size)
    have hne8 : v8.ownBlock ≠ some w1.heap.size := fun e => by
      have q1 := (Y3.out.from _ e).1
      have q2 := (X2.out.from w1.heap.size rfl).2
      omega
    have hne5 : v5.ownBlock ≠ some w1.heap.size := fun e => by
      have q1 := (O1.out.from _ e).2
      omega
    have hg6 : w.heap.size ≤ w1.heap.size := B1.out.size
    obtain ⟨a8, c8, rfl, _⟩ := y3.shape
    rw [HLL.out] at y3 hne8
    have X3 := Lib.hid x3
    have Y3' := Lib.hid y3
    have I3 := Lib.hid i3
    have B3 := Lib.hid b3
    have HN8 := Lib.hid hne8
    have HN5 := Lib.hid hne5
    rw [HLL.out]
    clear x3 y3 i3 b3 X2 Y3 D2 D3 O1 hne8 hne5
    go_loopw [10] (fun i wr => ∃ k : Nat, k ≤ n ∧ i = .int .i64 k ∧ Own wr w1.heap.size (.slice (some ⟨w1.heap.size, 0, none⟩) n n) (incK L k) ∧ Rd wr (.slice a8 n c8) L ∧ Rd wr v5 l0 ∧ Below w.heap.size w wr) (fun i _ => n - (intOf i).toNat)
    case atStart => exact ⟨0, Nat.zero_le _, rfl, by rw [incK_zero]; exact X3.out, Y3'.out, I3.out, B3.out⟩
    case round =>
      clear X3 Y3' I3 B3
      obtain ⟨k, hk, rfl, x0, y0, i0, b0⟩ := hrel
      have X := Lib.hid x0
      have Y := Lib.hid y0
      have I := Lib.hid i0
      have B := Lib.hid b0
      clear x0 y0 i0 b0
      by_cases hlt : k < n
      · have hkL : k < L.length := by rw [HLL.out]; exact hlt
        obtain ⟨ad8, rfl, cy⟩ := Y.out.at_ k hkL
        have cx := X.out.cell (by rw [incK_len, HLL.out]) k (by rw [incK_len]; exact hkL)
        rw [incK_at L k hkL] at cx
        have fx := X.out.free (by rw [incK_len, HLL.out]) k
        have hb := HLB.out k
        have HKL := Lib.hid hkL
        obtain ⟨b, hbb⟩ : ∃ b, b = gb L k := ⟨_, rfl⟩
        rw [← hbb] at cx cy hb
        have HBB := Lib.hid hbb
        have hd : decide ((n : Int) ≤ (k : Int)) = false := by simp; omega
        clear hbb hkL
        go_wp2_with fail
        go_quiet (fail)
        go_wp2_with fail
        have ex : ((b : Int) + 1) % 256 = (((b + 1) % 256 : Nat) : Int) := by omega
        have hlen : (incK L k).length = n := by rw [incK_len, HLL.out]
        have x1 : Own (wr.drewN nq) w1.heap.size (.slice (some ⟨w1.heap.size, 0, none⟩) (incK L k).length n) (incK L k) := by rw [hlen]; exact X.out.drewN nq
        have x2 := x1.set k ((b + 1) % 256) (Nat.mod_lt _ (by omega)) (by rw [hlen]; exact hlt)
        rw [hlen, ← ex] at x2
        rw [HBB.out, incK_step L k HKL.out, ← HBB.out] at x2
        exact ⟨⟨k + 1, by omega, by go_num, x2, (Y.out.drewN nq).setCell _ _ HN8.out, (I.out.drewN nq).setCell _ _ HN5.out, (below_dN B.out nq).setCell hg6 _⟩, by simp [intOf]; omega⟩
      · obtain rfl : k = n := by omega
        have s1 := I.out.str
        have s2 := (H0.out.below B.out).str
        go_wp2_with (first
          | (go_at_call 19; refine (nought_any _ _ l0 I.out).mono ?_; rintro ev w17 ⟨rfl, rfl⟩)
          | (go_at_call 20; refine (rnought_any _ _ l0 (H0.out.below B.out)).mono ?_; rintro ev w17 ⟨rfl, rfl⟩)
          | (go_at_call 14; refine (awake_any _).mono ?_; rintro ev w18 ⟨rfl, k2⟩; have B7 := Lib.hid k2; clear k2))
        go_ret
        exact ⟨rfl, B.out.trans (B7.out.mono B.out.size)⟩
  · obtain ⟨E, hP, hR⟩ : ∃ E : Int, (∀ W v, Rd W v l0 → Calls Try.prog 17 #[v, .int .i64 a1] W fun e w' => e = .returned (.tuple #[.slice none 0 0, .int .i64 E]) ∧ Below W.heap.size W w') ∧ (∀ W v, Rd W v l0 → Calls Try.prog 18 #[v, .int .i64 a1] W fun e w' => e = .returned (.tuple #[.slice none 0 0, .int .i64 E]) ∧ Below W.heap.size W w') := by
      by_cases hr : 0 ≤ a1 ∧ a1 ≤ 65536
      · exact ⟨5, fun W v h => pad_long W v l0 a1 h hr.1 hr.2 (by omega), fun W v h => rpad_long W v l0 a1 h hr.1 hr.2 (by omega)⟩
      · exact ⟨2, fun W v h => pad_arg W v l0 a1 h (by omega), fun W v h => rpad_arg W v l0 a1 h (by omega)⟩
    have HP := Lib.hid hP
    have HR := Lib.hid hR
    clear hP hR hok w1
    go_enter Try.func5, Try.ntmps5
    go_wp2_with (first
      | (at_builtin; refine wpList_app rfl (.tmp 11) (.tmp 12) rfl w.heap.size (.slice (some ⟨w.heap.size, 0, none⟩) 0 0) _ [] l0 rfl rfl E0.out (H0.out.alloc _) LF.out A0.out.size ?_; intro v5 w1 ho hg hk; have O1 := Lib.hid ho; have B1 := Lib.hid (A0.out.grown hg A0.out.size (fun k hk => (E0.out.from k hk).1)); clear ho hg hk)
      | (go_at_call 17; refine (HP.out w1 v5 O1.out.rd).mono ?_; rintro ev w2 ⟨rfl, k2⟩; have D2 := Lib.hid k2; clear k2)
      | (go_at_call 18; refine (HR.out w2 _ ((H0.out.below B1.out).below D2.out)).mono ?_; rintro ev w3 ⟨rfl, k2⟩; have D3 := Lib.hid k2; clear k2))
    have i3 := (O1.out.rd.below D2.out).below D3.out
    have b3 : Below w.heap.size w w3 := B1.out.trans ((D2.out.on D3.out).mono B1.out.size)
    have s1 := i3.str
    have s2 := (H0.out.below b3).str
    have I := Lib.hid i3
    have B := Lib.hid b3
    clear i3 b3
    refine wp_loop_rounds 1 ?_
    rw [rounds_succ]
    go_wp2_with (first
      | (go_at_call 19; refine (nought_any _ _ l0 I.out).mono ?_; rintro ev w17 ⟨rfl, rfl⟩)
      | (go_at_call 20; refine (rnought_any _ _ l0 (H0.out.below B.out)).mono ?_; rintro ev w17 ⟨rfl, rfl⟩)
      | (go_at_call 14; refine (awake_any _).mono ?_; rintro ev w18 ⟨rfl, k2⟩; have B7 := Lib.hid k2; clear k2))
    go_ret
    exact ⟨rfl, B.out.trans (B7.out.mono B.out.size)⟩
set_option linter.unusedVariables false in
set_option maxHeartbeats 400000 in
set_option maxRecDepth 100000 in
theorem lifted (os : Os) (started : os.Started) (H : Type) (enc : TypeId × Value → H) :
    ReturnsInHanded {} Try.checked os 5 .any (Rows.octetPadsSpec.pre6 enc Try.prog Try.f5 Rows.octetPadsRow.domain false) (Rows.octetPadsSpec.post enc Try.prog Try.f5 false true false false) := by
  refine returnsInHanded_of_change_sized (C := Try.checked) own started (by kernel_rfl) Try.func5
    (ChangeSpec.witness6 (enc := enc) (C := Try.checked) false ⟨#[], #[.slice none 0 0, .int .i64 0], []⟩ 8 (by kernel_rfl) (by kernel_rfl) (by kernel_rfl) (by kernel_rfl)) ?_
  intro W base args ds gs before hval0 hW _ hsz0 _
  have hsz : (DataW.weightsEach Try.prog (Try.f5.params.toList ++ Rows.octetPadsSpec.plain.varTypes Try.prog) (ds ++ gs)).all (· ≤ reachBytes) = true := hsz0
  clear hsz0
  have hval : ∀ (j : Nat) t v, Try.f5.params[j]? = some t → args[j]? = some v → Value.okWide Try.prog W .any base t v := hval0
  have hW' := hW
  obtain ⟨p, q, hA0, hV, rfl, _, _⟩ := hW
  have hA : DataW.TrodAll enc Try.prog W 0 (fun _ => true) true Try.f5.params.toList args.toList ds p := hA0
  rw [Try.params5] at hA hval hsz
  obtain ⟨v0, vs0, d0, ds0, p0, q0, hargs, rfl, rfl, g0, r0⟩ := trodAll_cons hA
  obtain ⟨v1, vs1, d1, ds1, p1, q1, rfl, rfl, rfl, g1, r1⟩ := trodAll_cons r0
  obtain ⟨rfl, rfl, rfl⟩ := trodAll_nil r1
  obtain rfl : args = #[v0, v1] := by cases args; simp_all
  obtain ⟨rfl, rfl⟩ := trodVars_none hV
  obtain ⟨l0, h0⟩ := open_bytes (hval 0 25 v0 rfl rfl) g0 (fun elems spare e => sized_slice hsz (j := 0) (t := 25) (e := 5) rfl (by rw [← e]; rfl) Try.underlying25)
  obtain ⟨a1, rfl, rfl, rfl, w1⟩ := open_int Try.underlying3 (hval 1 3 v1 rfl rfl) g1
  clear hA0 hval0
  have hlt := hW'.lt
  refine (walk W v0 l0 h0 a1 w1).mono fun e W' ⟨he, hb⟩ => ?_
  subst he
  have hargs : DataW.TrodAll enc Try.prog W' 0 (fun b => decide (b < W.heap.size)) true _ _ _ _ := (trodAll_cons_mk (Below.trod laidOut (by kernel_rfl) (of_decide_eq_true (by kernel_rfl)) g0 hb (fun x hx => hlt x (by simp [hx]))) (trodAll_cons_mk (shut_int Try.underlying3 w1) trodAll_mk0))
  simp only [List.append_nil] at hW' hargs
  exact ⟨_, rfl, post_law hW' (trodAll_cons_mk (shut_bool Try.underlying4 _) trodAll_mk0) hargs rfl hb⟩

theorem over : Rows.octetPadsRow.holds Try.pinned (OpenSpec.ofChange Rows.octetPadsSpec) :=
  OpenClaim.holds_of_wide 5 Try.f5 rfl rfl rfl rfl rfl rfl rfl ⟨rfl, rfl, rfl, rfl, rfl⟩ rfl rfl rfl rfl rfl (by kernel_rfl) Try.func5 (by kernel_rfl)
    (of_decide_eq_true (by kernel_rfl)) (by unfold Func.isWrapper; first | (rw [if_pos (by decide +kernel)]; kernel_rfl) | (rw [if_neg (by decide +kernel)]; exact ⟨rfl, rfl⟩))
    (fun os started H enc _ => lifted os started H enc)

/-- The given statement. -/
theorem proved : Rows.OctetPadsSaid :=
  over
end Go.Proofs.Ytngflmdlgaeokaa.octetPads

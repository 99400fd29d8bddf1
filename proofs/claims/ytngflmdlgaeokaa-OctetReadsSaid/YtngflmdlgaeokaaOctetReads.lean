/- OctetReads: any calls of a reader of any bytes tell what the document's reader tells, and leave its error and as many bytes; the bytes stay as they are; and the law's closed case holds. No condition. -/
import Derived.Test.YtngflmdlgaeokaaRows
import Derived.Test.YtngflmdlgaeokaaDoText
import Derived.Test.YtngflmdlgaeokaaOctAwake
import Derived.Test.YtngflmdlgaeokaaArgs
import Derived.Deep.RegionWith
import Derived.BigQuiet
import Derived.WalkKit
import Derived.ProofKit
import Derived.OpenShut
import Derived.SizedLaws
import Derived.Carry
namespace Go.Proofs.Ytngflmdlgaeokaa.octetReads
open Go.ChangeShapes Go.WideShapes Go.ChangeAt Go.RowKit
theorem quiet_to {P : Program} {f : FuncId} {args : Array Value} {w : World} {n : Nat} {v : Value} (h : Calls P f args (w.drewN n) fun e w' => e = .returned v ∧ w.drewN n = w') : Calls P f args (w.drewN n) fun e w'' => e = .returned v ∧ ∃ m, w'' = w.drewN m :=
  h.mono fun _ _ hh => ⟨hh.1, n, hh.2.symm⟩
theorem rdr_dN {w : World} {rb : Nat} {l : List Nat} {e : Int} (h : Rdr w rb l e) (n : Nat) : Rdr (w.drewN n) rb l e := by
  obtain ⟨sv, h1, h2, h3⟩ := h
  exact ⟨sv, h1, h2.drewN n, h3⟩
theorem own : ownKnob Try.prog.godebug = none := by kernel_rfl
set_option linter.unusedVariables false in
set_option maxHeartbeats 4000000 in
set_option maxRecDepth 100000 in
theorem walk (w : World) (v0 : Value) (l0 : List Nat) (h0 : Rd w v0 l0) (v1 : Value) (l1 : List (Nat × Int)) (h1 : Acts w v1 l1) :
    Calls Try.prog 6 #[v0, v1] w fun e w' => e = .returned (.bool true) ∧ Below w.heap.size w w' := by
  obtain ⟨ao, cap, rfl, hcap⟩ := h0.shape
  obtain ⟨co, ccap, rfl, hcm, hac⟩ := h1
  have hfit := h0.fits
  have HA : Hid (Acts w (.slice co l1.length ccap) l1) := ⟨co, ccap, rfl, hcm, hac⟩
  have H0 := Lib.hid h0
  unfold maxLen at hcm
  have LF := Lib.hid (show ([] : List Nat).length + l0.length ≤ 140737488351232 by simpa using hfit)
  have E0 := Lib.hid (own_empty w rfl (Nat.le_refl w.heap.size))
  have A0 := Lib.hid ((Below.refl w.heap.size w).alloc (Nat.le_refl _) (.cells #[] 5))
  clear h0 hac
  go_enter Try.func6, Try.ntmps6
  go_wp2_with (first
    | (at_builtin; refine wpList_app rfl (.tmp 10) (.tmp 11) rfl w.heap.size (.slice (some ⟨w.heap.size, 0, none⟩) 0 0) _ [] l0 rfl rfl E0.out (H0.out.alloc _) LF.out A0.out.size ?_; intro v5 w1 ho hg hk; have O1 := Lib.hid ho; have B1 := Lib.hid (A0.out.grown hg A0.out.size (fun k hk => (E0.out.from k hk).1)); clear ho hg hk)
    | (go_at_call 21; refine (read_any _ _ _ O1.out.rd).mono ?_; rintro ev w2 ⟨rb, rfl, k1, k2, k3⟩; have Q2 := Lib.hid k1; have D2 := Lib.hid k2; have hrb1 : w1.heap.size ≤ rb := k3; have hrb2 : rb < w2.heap.size := k1.lt; clear k1 k2 k3))
  have q3 := Q2.out.below ((Below.refl w2.heap.size w2).alloc (Nat.le_refl _) (.cells #[.slice ao l0.length cap, .int .i64 0] 46))
  have k3 := Blk.new w2 46 [.slice ao l0.length cap, .int .i64 0] w2.heap.size rfl
  have i3 := (O1.out.rd.below D2.out).alloc (.cells #[.slice ao l0.length cap, .int .i64 0] 46)
  have b2 : Below w.heap.size w w2 := B1.out.trans (D2.out.mono B1.out.size)
  have b3 := b2.alloc b2.size (.cells #[.slice ao l0.length cap, .int .i64 0] 46)
  have hrb : w.heap.size ≤ rb := Nat.le_trans B1.out.size hrb1
  have hx5 : v5.ownBlock ≠ some rb := fun q => by have := (O1.out.from _ q).2; omega
  have hx7 : v5.ownBlock ≠ some w2.heap.size := fun q => by have := (O1.out.from _ q).2; omega
  have hbb : w.heap.size ≤ w2.heap.size := b2.size
  have X5 := Lib.hid hx5
  have X7 := Lib.hid hx7
  have Q3 := Lib.hid q3
  have K3 := Lib.hid k3
  have I3 := Lib.hid i3
  have B3 := Lib.hid b3
  clear q3 k3 i3 b2 b3 hx5 hx7 Q2 D2 O1 B1 A0 E0 LF hrb1
  obtain ⟨b7, hb7⟩ : ∃ b7, b7 = w2.heap.size := ⟨_, rfl⟩
  rw [← hb7] at hrb2 hbb X7 K3 ⊢
  generalize (w2.alloc (.cells #[.slice ao l0.length cap, .int .i64 0] 46)) = W3 at *
  clear hb7
  go_loopw [8, 9] (fun ok i wr => ∃ (k : Nat) (sv : Value) (l : List Nat) (e : Int), k ≤ l1.length ∧ i = .int .i64 k ∧ ok = .bool true ∧ Rd w sv l ∧ Rdr wr rb l e ∧ (e ≠ 0 → l = []) ∧ Blk wr b7 46 [sv, .int .i64 e] ∧ Rd wr v5 l0 ∧ Below w.heap.size w wr) (fun _ i _ => l1.length - (intOf i).toNat)
  case atStart => exact ⟨0, _, l0, 0, Nat.zero_le _, rfl, rfl, H0.out, Q3.out, fun q => absurd rfl q, K3.out, I3.out, B3.out⟩
  case round =>
    clear Q3 K3 I3 B3
    obtain ⟨k, sv, l, e, hk, rfl, rfl, s0, q0, n0, k0, i0, b0⟩ := hrel
    obtain ⟨a1, c1, rfl, _⟩ := s0.shape
    have S := Lib.hid s0
    have Q := Lib.hid q0
    have NN := Lib.hid n0
    have KK := Lib.hid k0
    have I := Lib.hid i0
    have B := Lib.hid b0
    have c0 := k0.cell 0 _ rfl
    have c1' := k0.cell 1 _ rfl
    clear s0 q0 n0 k0 i0 b0
    by_cases hlt : k < l1.length
    · obtain ⟨ab, aoff, rfl, _, hca, hcb⟩ := HA.out.at_ k hlt
      have hab := World.block_lt_of_cell? w _ hca
      obtain ⟨K, hK⟩ : ∃ K, K = (l1.getD k (0, 0)).1 := ⟨_, rfl⟩
      obtain ⟨n, hn⟩ : ∃ n, n = (l1.getD k (0, 0)).2 := ⟨_, rfl⟩
      rw [← hK] at hca
      rw [← hn] at hcb
      have hda := (B.out.cell (p := ⟨ab, aoff + k * 2, none⟩) hab).trans hca
      have hdb := (B.out.cell (p := ⟨ab, aoff + k * 2 + 1, none⟩) hab).trans hcb
      clear hca hcb hK hn
      have DO := Lib.hid (do_any w wr.drew rb _ l e K n B.out.drew S.out Q.out.drew NN.out)
      go_wp2_with fail
      go_region_with (go_at_call 22; refine Calls.mono DO.out ?_; rintro ev w3 ⟨sv', l', e', rfl, m1, m2⟩; obtain ⟨a2, c2, rfl, _⟩ := m2.rd.shape; have k2 := KK.out.drew.grown m2.only (by simp; omega); have x0 := k2.cell 0 _ rfl; have x1 := k2.cell 1 _ rfl; have y0 := k2.free 0; have y1 := k2.free 1; have K2 := Lib.hid k2; have M1 := Lib.hid m1; have M2 := Lib.hid m2; clear k2 m1 m2)
      all_goals have q4 := M2.out.rdr.far2 (a' := a2) (n' := l'.length) (c' := c2) (E' := e') K2.out (by omega)
      all_goals have k4 := (K2.out.set 0 (.slice a2 l'.length c2)).set 1 (.int .i64 e')
      all_goals have i4 := ((I.out.drew.grown M2.out.only (.inr X5.out)).setCell ⟨b7, 0, none⟩ (.slice a2 l'.length c2) X7.out).setCell ⟨b7, 1, none⟩ (.int .i64 e') X7.out
      all_goals have b4 := below_final (B.out.drew.grown M2.out.only B.out.size (fun g q => by cases q; exact hrb)) hbb (.slice a2 l'.length c2) (.int .i64 e')
      all_goals simp only [List.set_cons_zero, List.set_cons_succ] at k4
      all_goals generalize ((w3.setCell ⟨b7, 0, none⟩ (.slice a2 l'.length c2)).setCell ⟨b7, 1, none⟩ (.int .i64 e')) = W4 at *
      all_goals have z0 := k4.cell 0 _ rfl
      all_goals have z1 := k4.cell 1 _ rfl
      all_goals have Q4 := Lib.hid q4
      all_goals have K4 := Lib.hid k4
      all_goals have I4 := Lib.hid i4
      all_goals have B4 := Lib.hid b4
      all_goals have R4 := Lib.hid M2.out.rd
      all_goals clear q4 k4 i4 b4 x0 x1 y0 y1 c0 c1' hda hdb DO K2 M2 KK I Q S B
      all_goals go_wp2_with fail
      all_goals go_quiet (first | (go_at_call 23; exact quiet_to (err_any _ rb l' e' (rdr_dN Q4.out _))) | (go_at_call 24; exact quiet_to (left_any _ rb l' e' (rdr_dN Q4.out _))))
      all_goals go_wp2_with fail
      all_goals exact ⟨⟨k + 1, _, l', e', by omega, by go_num, rfl, R4.out, rdr_dN Q4.out _, M1.out, K4.out, I4.out.drewN _, below_dN B4.out _⟩, by simp [intOf]; omega⟩
    · obtain rfl : k = l1.length := by omega
      have s1 := I.out.str
      have s2 := (H0.out.below B.out).str
      go_wp2_with (go_at_call 14; refine (awake_any _).mono ?_; rintro ev w18 ⟨rfl, k2⟩; have B7 := Lib.hid k2; clear k2)
      go_ret
      exact ⟨rfl, B.out.trans (B7.out.mono B.out.size)⟩
set_option linter.unusedVariables false in
set_option maxHeartbeats 400000 in
set_option maxRecDepth 100000 in
theorem lifted (os : Os) (started : os.Started) (H : Type) (enc : TypeId × Value → H) :
    ReturnsInHanded {} Try.checked os 6 .any (Rows.octetReadsSpec.pre6 enc Try.prog Try.f6 Rows.octetReadsRow.domain false) (Rows.octetReadsSpec.post enc Try.prog Try.f6 false true false false) := by
  refine returnsInHanded_of_change_sized (C := Try.checked) own started (by kernel_rfl) Try.func6
    (ChangeSpec.witness6 (enc := enc) (C := Try.checked) false ⟨#[], #[.slice none 0 0, .slice none 0 0], []⟩ 8 (by kernel_rfl) (by kernel_rfl) (by kernel_rfl) (by kernel_rfl)) ?_
  intro W base args ds gs before hval0 hW _ hsz0 _
  have hsz : (DataW.weightsEach Try.prog (Try.f6.params.toList ++ Rows.octetReadsSpec.plain.varTypes Try.prog) (ds ++ gs)).all (· ≤ reachBytes) = true := hsz0
  clear hsz0
  have hval : ∀ (j : Nat) t v, Try.f6.params[j]? = some t → args[j]? = some v → Value.okWide Try.prog W .any base t v := hval0
  have hW' := hW
  obtain ⟨p, q, hA0, hV, rfl, _, _⟩ := hW
  have hA : DataW.TrodAll enc Try.prog W 0 (fun _ => true) true Try.f6.params.toList args.toList ds p := hA0
  rw [Try.params6] at hA hval hsz
  obtain ⟨v0, vs0, d0, ds0, p0, q0, hargs, rfl, rfl, g0, r0⟩ := trodAll_cons hA
  obtain ⟨v1, vs1, d1, ds1, p1, q1, rfl, rfl, rfl, g1, r1⟩ := trodAll_cons r0
  obtain ⟨rfl, rfl, rfl⟩ := trodAll_nil r1
  obtain rfl : args = #[v0, v1] := by cases args; simp_all
  obtain ⟨rfl, rfl⟩ := trodVars_none hV
  obtain ⟨l0, h0⟩ := open_bytes (hval 0 25 v0 rfl rfl) g0 (fun elems spare e => sized_slice hsz (j := 0) (t := 25) (e := 5) rfl (by rw [← e]; rfl) Try.underlying25)
  obtain ⟨l1, h1⟩ := open_acts (hval 1 42 v1 rfl rfl) g1
  clear hA0 hval0
  have hlt := hW'.lt
  refine (walk W v0 l0 h0 v1 l1 h1).mono fun e W' ⟨he, hb⟩ => ?_
  subst he
  have hargs : DataW.TrodAll enc Try.prog W' 0 (fun b => decide (b < W.heap.size)) true _ _ _ _ := (trodAll_cons_mk (Below.trod laidOut (by kernel_rfl) (of_decide_eq_true (by kernel_rfl)) g0 hb (fun x hx => hlt x (by simp [hx]))) (trodAll_cons_mk (Below.trod laidOut (by kernel_rfl) (of_decide_eq_true (by kernel_rfl)) g1 hb (fun x hx => hlt x (by simp [hx]))) trodAll_mk0))
  simp only [List.append_nil] at hW' hargs
  exact ⟨_, rfl, post_law hW' (trodAll_cons_mk (shut_bool Try.underlying4 _) trodAll_mk0) hargs rfl hb⟩

theorem over : Rows.octetReadsRow.holds Try.pinned (OpenSpec.ofChange Rows.octetReadsSpec) :=
  OpenClaim.holds_of_wide 6 Try.f6 rfl rfl rfl rfl rfl rfl rfl ⟨rfl, rfl, rfl, rfl, rfl⟩ rfl rfl rfl rfl rfl (by kernel_rfl) Try.func6 (by kernel_rfl)
    (of_decide_eq_true (by kernel_rfl)) (by unfold Func.isWrapper; first | (rw [if_pos (by decide +kernel)]; kernel_rfl) | (rw [if_neg (by decide +kernel)]; exact ⟨rfl, rfl⟩))
    (fun os started H enc _ => lifted os started H enc)

/-- The given statement. -/
theorem proved : Rows.OctetReadsSaid :=
  over
end Go.Proofs.Ytngflmdlgaeokaa.octetReads

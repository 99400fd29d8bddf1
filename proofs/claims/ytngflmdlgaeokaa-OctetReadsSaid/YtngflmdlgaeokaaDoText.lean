/- One call of a reader: Text; and any call. Own work. -/
import Derived.Test.YtngflmdlgaeokaaDoCallsB
import Derived.Test.YtngflmdlgaeokaaDoTake
namespace Go.Proofs.Ytngflmdlgaeokaa
open Go.RowKit
set_option maxHeartbeats 2000000 in
theorem do_text (w0 w : World) (rb : Nat) (sv : Value) (l : List Nat) (e : Int) (K : Nat) (N : Int) (hw : Below w0.heap.size w0 w) (hs : Rd w0 sv l) (hR : Rdr w rb l e) (he : e ≠ 0 → l = []) (hj : K % 6 = 5) :
    Calls Try.prog 22 #[.pointer (some ⟨rb, 0, none⟩), refv sv e, .agg #[.int .u8 (K : Nat), .int .i64 N]] w fun ev w' => ∃ sv', ev = .returned (.tuple #[refv sv' (rtErr l e N), .bool true]) ∧ Did w0 w w' rb sv' (rtLeft l e N) (rtErr l e N) := by
  obtain ⟨ao, cap, rfl, _⟩ := hs.shape
  have b0 := below3 w (.cells #[.slice ao l.length cap, .int .i64 e] 46) (.cells #[.int .u8 (K : Nat), .int .i64 N] 50) (.cells #[.slice none 0 0, .int .i64 0] 46)
  have i0 : Blk (((w.alloc (.cells #[.slice ao l.length cap, .int .i64 e] 46)).alloc (.cells #[.int .u8 (K : Nat), .int .i64 N] 50)).alloc (.cells #[.slice none 0 0, .int .i64 0] 46)) w.heap.size 46 [.slice ao l.length cap, .int .i64 e] := ((Blk.new _ _ _ _ (by simp)).alloc _).alloc _
  have j0 : Blk (((w.alloc (.cells #[.slice ao l.length cap, .int .i64 e] 46)).alloc (.cells #[.int .u8 (K : Nat), .int .i64 N] 50)).alloc (.cells #[.slice none 0 0, .int .i64 0] 46)) (w.heap.size + 1) 50 [.int .u8 (K : Nat), .int .i64 N] := (Blk.new _ _ _ _ (by simp)).alloc _
  have k0 : Blk (((w.alloc (.cells #[.slice ao l.length cap, .int .i64 e] 46)).alloc (.cells #[.int .u8 (K : Nat), .int .i64 N] 50)).alloc (.cells #[.slice none 0 0, .int .i64 0] 46)) (w.heap.size + 1 + 1) 46 [.slice none 0 0, .int .i64 0] := Blk.new _ _ _ _ (by simp)
  have ht := refText_any _ _ l e N ((hs.below hw).below b0) he
  have hrb := hR.lt
  have ek : ((K : Nat) : Int).tmod 6 = 5 := by
    have h1 : ((K : Nat) : Int).tmod 6 = ((K % 6 : Nat) : Int) := by rw [Int.tmod_eq_emod_of_nonneg (by omega)]; omega
    rw [h1, hj]; rfl
  have hu := fun X (hX : Rdr X rb l e) => rtext_any X rb l e N hX
  obtain ⟨T, hT⟩ : ∃ T, T = bstr (rtGot l e N) := ⟨_, rfl⟩
  obtain ⟨E, hE⟩ : ∃ E, E = rtErr l e N := ⟨_, rfl⟩
  obtain ⟨D, hD⟩ : ∃ D, D = rtLeft l e N := ⟨_, rfl⟩
  simp only [← hT, ← hE, ← hD] at ht hu ⊢
  have HT := Lib.hid ht
  have HU := Lib.hid hu
  have B0 := Lib.hid b0
  have I0 := Lib.hid i0
  have J0 := Lib.hid j0
  have K0 := Lib.hid k0
  have HR := Lib.hid hR
  have HS := Lib.hid hs
  clear ht b0 i0 j0 k0 hR hs hw he hj hu hT hE hD
  go_enter Try.func22, Try.ntmps22
  go_wp2_with (go_at_call 35; refine Calls.mono HT.out ?_; rintro ev w1 ⟨sv', rfl, h1, h3⟩; obtain ⟨a1, c1, rfl, _⟩ := (h1 _ HS.out).shape; have S1 := Lib.hid (h1 _ HS.out); have B1 := Lib.hid (B0.out.on h3); have i1 := I0.out.below h3 I0.out.lt; have k1 := K0.out.below h3 K0.out.lt; have hlt1 := k1.lt; have r0 := i1.cell 0 _ rfl; have r1 := i1.cell 1 _ rfl; have t0 := i1.free 0; have t1 := i1.free 1; have I1 := Lib.hid i1; have J1 := Lib.hid (J0.out.below h3 J0.out.lt); have K1 := Lib.hid k1; clear h1 h3 i1 k1)
  have n1 := (I1.out.set 0 (.slice a1 D.length c1)).set 1 (.int .i64 E)
  have j1 := (J1.out.other ⟨w.heap.size, 0, none⟩ (.slice a1 D.length c1) (by simp)).other ⟨w.heap.size, 1, none⟩ (.int .i64 E) (by simp)
  have m1 := (K1.out.other ⟨w.heap.size, 0, none⟩ (.slice a1 D.length c1) (by simp; omega)).other ⟨w.heap.size, 1, none⟩ (.int .i64 E) (by simp; omega)
  have bw := below_final B1.out (b := w.heap.size) (Nat.le_refl _) (.slice a1 D.length c1) (.int .i64 E)
  simp only [List.set_cons_zero, List.set_cons_succ] at n1
  clear r0 r1 t0 t1
  generalize ((w1.setCell ⟨w.heap.size, 0, none⟩ (.slice a1 D.length c1)).setCell ⟨w.heap.size, 1, none⟩ (.int .i64 E)) = W at *
  have c0 := n1.cell 0 _ rfl
  have c1' := n1.cell 1 _ rfl
  have g1 := j1.cell 1 _ rfl
  have d0 := m1.cell 0 _ rfl
  have d1 := m1.cell 1 _ rfl
  have f0 := m1.free 0
  have f1 := m1.free 1
  have N1 := Lib.hid n1
  have M1 := Lib.hid m1
  have BW := Lib.hid bw
  have RA := Lib.hid (HR.out.below bw.drew)
  have b2 := (below_final bw (b := w.heap.size + 1 + 1) (by omega) (.slice a1 D.length c1) (.int .i64 E)).drew
  have m2 : Blk ((W.setCell ⟨w.heap.size + 1 + 1, 0, none⟩ (.slice a1 D.length c1)).setCell ⟨w.heap.size + 1 + 1, 1, none⟩ (.int .i64 E)).drew (w.heap.size + 1 + 1) 46 [.slice a1 D.length c1, .int .i64 E] := ((m1.set 0 _).set 1 _).drew
  have BX := Lib.hid b2
  have RX := Lib.hid (HR.out.below b2)
  have MX := Lib.hid m2
  clear n1 m1 j1 bw b2 m2 B1 K1 J1 I1
  go_region_with (first
    | (go_at_call 29; (with_reducible show Calls _ _ _ W.drew _); refine Calls.mono (HU.out _ RA.out) ?_; rintro ev w2 ⟨rfl, q1, q2⟩; have r0 := (N1.out.drew.grown q2 (by simp; omega)); have r1 := (M1.out.drew.grown q2 (by simp; omega)); have x0 := r0.cell 0 _ rfl; have x1 := r0.cell 1 _ rfl; have y0 := r1.cell 0 _ rfl; have y1 := r1.cell 1 _ rfl; have z0 := r1.free 0; have z1 := r1.free 1; have R1 := Lib.hid r1; have Q1 := Lib.hid q1; have Q2 := Lib.hid (only_after BW.out.drew q2); clear q1 q2 r0 r1)
    | (go_at_call 29; refine Calls.mono (HU.out _ RX.out) ?_; rintro ev w2 ⟨rfl, q1, q2⟩; have R3 := Lib.hid (MX.out.grown q2 (by simp; omega)); have Q1 := Lib.hid q1; have Q2 := Lib.hid (only_after BX.out q2); clear q1 q2))
  all_goals go_wp2_with fail
  all_goals first
    | exact bodyPost_ret (results_mid2 rfl _ _ (w.heap.size + 1 + 1) [.slice a1 D.length c1, .int .i64 E] _ rfl (cell_final R1.out _ _) Try.underlying46 rfl infoRd) rfl ⟨_, rfl, S1.out, Q1.out.far2 R1.out (by omega), only_final Q2.out (by omega) _ _⟩
    | exact bodyPost_ret (results_mid2 rfl _ _ (w.heap.size + 1 + 1) [.slice a1 D.length c1, .int .i64 E] _ rfl R3.out.range Try.underlying46 rfl infoRd) rfl ⟨_, rfl, S1.out, Q1.out, Q2.out⟩
/-- Any call. -/
theorem do_any (w0 w : World) (rb : Nat) (sv : Value) (l : List Nat) (e : Int) (K : Nat) (N : Int) (hw : Below w0.heap.size w0 w) (hs : Rd w0 sv l) (hR : Rdr w rb l e) (he : e ≠ 0 → l = []) :
    Calls Try.prog 22 #[.pointer (some ⟨rb, 0, none⟩), refv sv e, .agg #[.int .u8 (K : Nat), .int .i64 N]] w fun ev w' => ∃ sv' l' e', ev = .returned (.tuple #[refv sv' e', .bool true]) ∧ (e' ≠ 0 → l' = []) ∧ Did w0 w w' rb sv' l' e' := by
  have h6 : K % 6 < 6 := Nat.mod_lt _ (by omega)
  match hk : K % 6, h6 with
  | 0, _ => exact (do_u8 w0 w rb sv l e K N hw hs hR he hk).mono fun _ _ ⟨s, h1, h2⟩ => ⟨s, _, _, h1, left_nil_of, h2⟩
  | 1, _ => exact (do_u16 w0 w rb sv l e K N hw hs hR he hk).mono fun _ _ ⟨s, h1, h2⟩ => ⟨s, _, _, h1, left_nil_of, h2⟩
  | 2, _ => exact (do_u32 w0 w rb sv l e K N hw hs hR he hk).mono fun _ _ ⟨s, h1, h2⟩ => ⟨s, _, _, h1, left_nil_of, h2⟩
  | 3, _ => exact (do_u64 w0 w rb sv l e K N hw hs hR he hk).mono fun _ _ ⟨s, h1, h2⟩ => ⟨s, _, _, h1, left_nil_of, h2⟩
  | 4, _ => exact (do_take w0 w rb sv l e K N hw hs hR he hk).mono fun _ _ ⟨s, h1, h2⟩ => ⟨s, _, _, h1, left_nil_of, h2⟩
  | 5, _ => exact (do_text w0 w rb sv l e K N hw hs hR he hk).mono fun _ _ ⟨s, h1, h2⟩ => ⟨s, _, _, h1, tleft_nil_of, h2⟩
end Go.Proofs.Ytngflmdlgaeokaa

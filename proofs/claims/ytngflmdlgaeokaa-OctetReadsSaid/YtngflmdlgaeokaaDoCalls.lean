/- One call of a reader, on the program's and on the document's: what both leave. Own work. -/
import Derived.Test.YtngflmdlgaeokaaRefText
import Derived.Deep.RegionWith
namespace Go.Proofs.Ytngflmdlgaeokaa
open Go.RowKit
theorem below3 (w : World) (a b c : Obj) : Below w.heap.size w (((w.alloc a).alloc b).alloc c) := (((Below.refl _ _).alloc (Nat.le_refl _) a).alloc (by simp) b).alloc (by simp; omega) c
theorem left_nil_of {l : List Nat} {e n : Int} (h : rpErr l e n ≠ 0) : rpLeft l e n = [] := by
  unfold rpLeft; rw [if_neg (fun q => by
    unfold rpErr at h; rw [if_pos q.1] at h; exact h q.2)]
theorem tleft_nil_of {l : List Nat} {e n : Int} (h : rtErr l e n ≠ 0) : rtLeft l e n = [] := by
  unfold rtLeft; rw [if_neg (fun q => by
    unfold rtErr at h; rw [if_pos q.1] at h; exact h q.2)]
/-- A store into a variable of the document's reader turns no bytes. -/
theorem Rd.far {w : World} {v : Value} {l : List Nat} {b : Nat} {t : TypeId} {a : Option Addr} {n c : Nat} {E : Int} (h : Rd w v l) (hk : Blk w b t [.slice a n c, .int .i64 E]) (i : Nat) (u : Value) : Rd (w.setCell ⟨b, i, none⟩ u) v l := by
  refine ⟨h.byte, h.fits, ?_⟩
  rcases h.form with q | ⟨ad, cap, e, hc, hs⟩
  · exact .inl q
  · refine .inr ⟨ad, cap, e, hc, fun j hj => ?_⟩
    have h1 := hs j hj
    by_cases hb : (ad.add j).block = b
    · exfalso
      have hsp := World.cell?_spot h1
      obtain ⟨x, hx⟩ : ∃ x, x = ad.add j := ⟨_, rfl⟩
      rw [← hx] at h1 hb hsp
      obtain ⟨xb, xo, xs⟩ := x
      simp only at hb hsp
      subst hb; subst hsp
      rw [cell_of_row w xb xo _ t _ hk] at h1
      match xo, h1 with
      | 0, h1 => simp at h1
      | 1, h1 => simp at h1
      | xo + 2, h1 => simp at h1
    · rw [World.cell?_of_block (w := w) (Below.heap_setCell w ⟨b, i, none⟩ u _ hb)]; exact h1
theorem Rdr.far2 {w : World} {rb b : Nat} {l : List Nat} {e : Int} {a a' : Option Addr} {n c n' c' : Nat} {E E' : Int} (h : Rdr w rb l e) (hk : Blk w b 46 [.slice a n c, .int .i64 E]) (hne : rb ≠ b) : Rdr ((w.setCell ⟨b, 0, none⟩ (.slice a' n' c')).setCell ⟨b, 1, none⟩ (.int .i64 E')) rb l e := by
  obtain ⟨sv, h1, h2, h3⟩ := h
  refine ⟨sv, (h1.other ⟨b, 0, none⟩ _ hne).other ⟨b, 1, none⟩ _ hne, (h2.far hk 0 (.slice a' n' c')).far (hk.set 0 (.slice a' n' c')) 1 _, h3⟩
theorem only_final {a w : World} {rb b : Nat} (h : a.grownBy w (some rb)) (hb : a.heap.size ≤ b) (u v : Value) : a.grownBy ((w.setCell ⟨b, 0, none⟩ u).setCell ⟨b, 1, none⟩ v) (some rb) := only_set (only_set h (.inr hb) u) (.inr hb) v
/-- What a call of a reader leaves. -/
structure Did (w0 w w' : World) (rb : Nat) (sv' : Value) (l : List Nat) (e : Int) : Prop where
  rd : Rd w0 sv' l
  rdr : Rdr w' rb l e
  only : w.grownBy w' (some rb)

set_option maxHeartbeats 2000000 in
theorem do_u8 (w0 w : World) (rb : Nat) (sv : Value) (l : List Nat) (e : Int) (K : Nat) (N : Int) (hw : Below w0.heap.size w0 w) (hs : Rd w0 sv l) (hR : Rdr w rb l e) (he : e ≠ 0 → l = []) (hj : K % 6 = 0) :
    Calls Try.prog 22 #[.pointer (some ⟨rb, 0, none⟩), refv sv e, .agg #[.int .u8 (K : Nat), .int .i64 N]] w fun ev w' => ∃ sv', ev = .returned (.tuple #[refv sv' (rpErr l e 1), .bool true]) ∧ Did w0 w w' rb sv' (rpLeft l e 1) (rpErr l e 1) := by
  have hby := hR.byte
  obtain ⟨ao, cap, rfl, _⟩ := hs.shape
  have b0 := below3 w (.cells #[.slice ao l.length cap, .int .i64 e] 46) (.cells #[.int .u8 (K : Nat), .int .i64 N] 50) (.cells #[.slice none 0 0, .int .i64 0] 46)
  have k0 : Blk (((w.alloc (.cells #[.slice ao l.length cap, .int .i64 e] 46)).alloc (.cells #[.int .u8 (K : Nat), .int .i64 N] 50)).alloc (.cells #[.slice none 0 0, .int .i64 0] 46)) (w.heap.size + 1 + 1) 46 [.slice none 0 0, .int .i64 0] := Blk.new _ _ _ _ (by simp)
  have ht := refNumber_any _ _ l e 1 ((hs.below hw).below b0) he
  have hrb := hR.lt
  have ek : ((K : Nat) : Int).tmod 6 = 0 := by
    have h1 : ((K : Nat) : Int).tmod 6 = ((K % 6 : Nat) : Int) := by rw [Int.tmod_eq_emod_of_nonneg (by omega)]; omega
    rw [h1, hj]; rfl
  have hv := num_lt _ (rpGot_byte hby e 1)
  have hu := fun X (hX : Rdr X rb l e) => u8_any X rb l e hX
  obtain ⟨V, hV⟩ : ∃ V, V = num (rpGot l e 1) := ⟨_, rfl⟩
  obtain ⟨E, hE⟩ : ∃ E, E = rpErr l e 1 := ⟨_, rfl⟩
  obtain ⟨D, hD⟩ : ∃ D, D = rpLeft l e 1 := ⟨_, rfl⟩
  simp only [← hV, ← hE, ← hD] at ht hu hv ⊢
  have ew : IntKind.u64.wrap (V : Int) = (V : Int) := by rw [IntKind.wrap_u64]; omega
  have HT := Lib.hid ht
  have HU := Lib.hid hu
  have B0 := Lib.hid b0
  have K0 := Lib.hid k0
  have HR := Lib.hid hR
  have HS := Lib.hid hs
  clear ht b0 k0 hR hs hw he hj hby hu hV hE hD
  go_enter Try.func22, Try.ntmps22
  go_wp2_with (go_at_call 33; refine Calls.mono HT.out ?_; rintro ev w1 ⟨sv', rfl, h1, h3⟩; obtain ⟨a1, c1, rfl, _⟩ := (h1 _ HS.out).shape; have S1 := Lib.hid (h1 _ HS.out); have B1 := Lib.hid (B0.out.on h3); have k1 := K0.out.below h3 K0.out.lt; have hlt1 := k1.lt; have K1 := Lib.hid k1; clear h1 h3 k1)
  have n1 := Blk.new w1 46 [.slice a1 D.length c1, .int .i64 E] w1.heap.size rfl
  have m1 := K1.out.alloc (.cells #[.slice a1 D.length c1, .int .i64 E] 46)
  have bw := B1.out.alloc B1.out.size (.cells #[.slice a1 D.length c1, .int .i64 E] 46)
  obtain ⟨b8, hb8⟩ : ∃ b8, b8 = w1.heap.size := ⟨_, rfl⟩
  rw [← hb8] at hlt1
  simp only [← hb8] at n1 ⊢
  generalize (w1.alloc (.cells #[.slice a1 D.length c1, .int .i64 E] 46)) = W at *
  have c0 := n1.cell 0 _ rfl
  have c1' := n1.cell 1 _ rfl
  have d0 := m1.cell 0 _ rfl
  have d1 := m1.cell 1 _ rfl
  have f0 := m1.free 0
  have f1 := m1.free 1
  have N1 := Lib.hid n1
  have M1 := Lib.hid m1
  have BW := Lib.hid bw
  have RA := Lib.hid (HR.out.below bw.drew)
  have b2 := (below_final bw (b := w.heap.size + 1 + 1) (by omega) (.slice a1 D.length c1) (.int .i64 E)).drew
  have m2 : Blk ((W.setCell ⟨w.heap.size + 1 + 1, 0, none⟩ (.slice a1 D.length c1)).setCell ⟨w.heap.size + 1 + 1, 1, none⟩ (.int .i64 E)).drew (w.heap.size + 1 + 1) 46 [.slice a1 D.length c1, .int .i64 E] := ((m1.set 0 _).set 1 _).drew
  have BX := Lib.hid b2
  have RX := Lib.hid (HR.out.below b2)
  have MX := Lib.hid m2
  clear n1 m1 bw b2 m2 hb8 B1 K1
  go_region_with (first
    | (go_at_call 25; (with_reducible show Calls _ _ _ W.drew _); refine Calls.mono (HU.out _ RA.out) ?_; rintro ev w2 ⟨rfl, q1, q2⟩; have r0 := (N1.out.drew.grown q2 (by simp; omega)); have r1 := (M1.out.drew.grown q2 (by simp; omega)); have x0 := r0.cell 0 _ rfl; have x1 := r0.cell 1 _ rfl; have y0 := r1.cell 0 _ rfl; have y1 := r1.cell 1 _ rfl; have z0 := r1.free 0; have z1 := r1.free 1; have R1 := Lib.hid r1; have Q1 := Lib.hid q1; have Q2 := Lib.hid (only_after BW.out.drew q2); clear q1 q2 r0 r1)
    | (go_at_call 25; refine Calls.mono (HU.out _ RX.out) ?_; rintro ev w2 ⟨rfl, q1, q2⟩; have R3 := Lib.hid (MX.out.grown q2 (by simp; omega)); have Q1 := Lib.hid q1; have Q2 := Lib.hid (only_after BX.out q2); clear q1 q2))
  all_goals go_wp2_with fail
  all_goals first
    | exact bodyPost_ret (results_mid2 rfl _ _ (w.heap.size + 1 + 1) [.slice a1 D.length c1, .int .i64 E] _ rfl (cell_final R1.out _ _) Try.underlying46 rfl infoRd) rfl ⟨_, rfl, S1.out, Q1.out.far2 R1.out (by omega), only_final Q2.out (by omega) _ _⟩
    | exact bodyPost_ret (results_mid2 rfl _ _ (w.heap.size + 1 + 1) [.slice a1 D.length c1, .int .i64 E] _ rfl R3.out.range Try.underlying46 rfl infoRd) rfl ⟨_, rfl, S1.out, Q1.out, Q2.out⟩

set_option maxHeartbeats 2000000 in
theorem do_u16 (w0 w : World) (rb : Nat) (sv : Value) (l : List Nat) (e : Int) (K : Nat) (N : Int) (hw : Below w0.heap.size w0 w) (hs : Rd w0 sv l) (hR : Rdr w rb l e) (he : e ≠ 0 → l = []) (hj : K % 6 = 1) :
    Calls Try.prog 22 #[.pointer (some ⟨rb, 0, none⟩), refv sv e, .agg #[.int .u8 (K : Nat), .int .i64 N]] w fun ev w' => ∃ sv', ev = .returned (.tuple #[refv sv' (rpErr l e 2), .bool true]) ∧ Did w0 w w' rb sv' (rpLeft l e 2) (rpErr l e 2) := by
  have hby := hR.byte
  obtain ⟨ao, cap, rfl, _⟩ := hs.shape
  have b0 := below3 w (.cells #[.slice ao l.length cap, .int .i64 e] 46) (.cells #[.int .u8 (K : Nat), .int .i64 N] 50) (.cells #[.slice none 0 0, .int .i64 0] 46)
  have k0 : Blk (((w.alloc (.cells #[.slice ao l.length cap, .int .i64 e] 46)).alloc (.cells #[.int .u8 (K : Nat), .int .i64 N] 50)).alloc (.cells #[.slice none 0 0, .int .i64 0] 46)) (w.heap.size + 1 + 1) 46 [.slice none 0 0, .int .i64 0] := Blk.new _ _ _ _ (by simp)
  have ht := refNumber_any _ _ l e 2 ((hs.below hw).below b0) he
  have hrb := hR.lt
  have ek : ((K : Nat) : Int).tmod 6 = 1 := by
    have h1 : ((K : Nat) : Int).tmod 6 = ((K % 6 : Nat) : Int) := by rw [Int.tmod_eq_emod_of_nonneg (by omega)]; omega
    rw [h1, hj]; rfl
  have hv := num_lt _ (rpGot_byte hby e 2)
  have hu := fun X (hX : Rdr X rb l e) => u16_any X rb l e hX
  obtain ⟨V, hV⟩ : ∃ V, V = num (rpGot l e 2) := ⟨_, rfl⟩
  obtain ⟨E, hE⟩ : ∃ E, E = rpErr l e 2 := ⟨_, rfl⟩
  obtain ⟨D, hD⟩ : ∃ D, D = rpLeft l e 2 := ⟨_, rfl⟩
  simp only [← hV, ← hE, ← hD] at ht hu hv ⊢
  have ew : IntKind.u64.wrap (V : Int) = (V : Int) := by rw [IntKind.wrap_u64]; omega
  have HT := Lib.hid ht
  have HU := Lib.hid hu
  have B0 := Lib.hid b0
  have K0 := Lib.hid k0
  have HR := Lib.hid hR
  have HS := Lib.hid hs
  clear ht b0 k0 hR hs hw he hj hby hu hV hE hD
  go_enter Try.func22, Try.ntmps22
  go_wp2_with (go_at_call 33; refine Calls.mono HT.out ?_; rintro ev w1 ⟨sv', rfl, h1, h3⟩; obtain ⟨a1, c1, rfl, _⟩ := (h1 _ HS.out).shape; have S1 := Lib.hid (h1 _ HS.out); have B1 := Lib.hid (B0.out.on h3); have k1 := K0.out.below h3 K0.out.lt; have hlt1 := k1.lt; have K1 := Lib.hid k1; clear h1 h3 k1)
  have n1 := Blk.new w1 46 [.slice a1 D.length c1, .int .i64 E] w1.heap.size rfl
  have m1 := K1.out.alloc (.cells #[.slice a1 D.length c1, .int .i64 E] 46)
  have bw := B1.out.alloc B1.out.size (.cells #[.slice a1 D.length c1, .int .i64 E] 46)
  obtain ⟨b8, hb8⟩ : ∃ b8, b8 = w1.heap.size := ⟨_, rfl⟩
  rw [← hb8] at hlt1
  simp only [← hb8] at n1 ⊢
  generalize (w1.alloc (.cells #[.slice a1 D.length c1, .int .i64 E] 46)) = W at *
  have c0 := n1.cell 0 _ rfl
  have c1' := n1.cell 1 _ rfl
  have d0 := m1.cell 0 _ rfl
  have d1 := m1.cell 1 _ rfl
  have f0 := m1.free 0
  have f1 := m1.free 1
  have N1 := Lib.hid n1
  have M1 := Lib.hid m1
  have BW := Lib.hid bw
  have RA := Lib.hid (HR.out.below bw.drew)
  have b2 := (below_final bw (b := w.heap.size + 1 + 1) (by omega) (.slice a1 D.length c1) (.int .i64 E)).drew
  have m2 : Blk ((W.setCell ⟨w.heap.size + 1 + 1, 0, none⟩ (.slice a1 D.length c1)).setCell ⟨w.heap.size + 1 + 1, 1, none⟩ (.int .i64 E)).drew (w.heap.size + 1 + 1) 46 [.slice a1 D.length c1, .int .i64 E] := ((m1.set 0 _).set 1 _).drew
  have BX := Lib.hid b2
  have RX := Lib.hid (HR.out.below b2)
  have MX := Lib.hid m2
  clear n1 m1 bw b2 m2 hb8 B1 K1
  go_region_with (first
    | (go_at_call 26; (with_reducible show Calls _ _ _ W.drew _); refine Calls.mono (HU.out _ RA.out) ?_; rintro ev w2 ⟨rfl, q1, q2⟩; have r0 := (N1.out.drew.grown q2 (by simp; omega)); have r1 := (M1.out.drew.grown q2 (by simp; omega)); have x0 := r0.cell 0 _ rfl; have x1 := r0.cell 1 _ rfl; have y0 := r1.cell 0 _ rfl; have y1 := r1.cell 1 _ rfl; have z0 := r1.free 0; have z1 := r1.free 1; have R1 := Lib.hid r1; have Q1 := Lib.hid q1; have Q2 := Lib.hid (only_after BW.out.drew q2); clear q1 q2 r0 r1)
    | (go_at_call 26; refine Calls.mono (HU.out _ RX.out) ?_; rintro ev w2 ⟨rfl, q1, q2⟩; have R3 := Lib.hid (MX.out.grown q2 (by simp; omega)); have Q1 := Lib.hid q1; have Q2 := Lib.hid (only_after BX.out q2); clear q1 q2))
  all_goals go_wp2_with fail
  all_goals first
    | exact bodyPost_ret (results_mid2 rfl _ _ (w.heap.size + 1 + 1) [.slice a1 D.length c1, .int .i64 E] _ rfl (cell_final R1.out _ _) Try.underlying46 rfl infoRd) rfl ⟨_, rfl, S1.out, Q1.out.far2 R1.out (by omega), only_final Q2.out (by omega) _ _⟩
    | exact bodyPost_ret (results_mid2 rfl _ _ (w.heap.size + 1 + 1) [.slice a1 D.length c1, .int .i64 E] _ rfl R3.out.range Try.underlying46 rfl infoRd) rfl ⟨_, rfl, S1.out, Q1.out, Q2.out⟩
end Go.Proofs.Ytngflmdlgaeokaa

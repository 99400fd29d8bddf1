/- One call of a reader: Take. Own work. -/
import Derived.Test.YtngflmdlgaeokaaDoCalls
import Derived.Test.YtngflmdlgaeokaaPadCalls
namespace Go.Proofs.Ytngflmdlgaeokaa
open Go.RowKit
theorem take_any2 (w : World) (rb : Nat) (l : List Nat) (e n : Int) (hR : Rdr w rb l e) :
    Calls Try.prog 30 #[.pointer (some ⟨rb, 0, none⟩), .int .i64 n] w fun ev w' => ∃ v, ev = .returned v ∧ Own w' w.heap.size v (rpGot l e n) ∧ Rdr w' rb (rpLeft l e n) (rpErr l e n) ∧ w.grownBy w' (some rb) ∧ ∀ X, w'.grownBy X v.ownBlock → Rdr X rb (rpLeft l e n) (rpErr l e n) := by
  have HP := Lib.hid (pass_any w rb l e n hR)
  clear hR
  go_enter Try.func30, Try.ntmps30
  go_wp2_with (first | (go_at_call 37; refine Calls.mono HP.out ?_; rintro ev w1 ⟨v, rfl, h1, h2, h3, h4⟩; have H1 := Lib.hid h1; have H2 := Lib.hid h2; have H3 := Lib.hid h3; clear h1 h2 h3 h4) | (go_at_call 32; refine (clone_any v _ w1 H1.out).mono ?_; rintro ev w2 ⟨v2, rfl, k1, k2⟩; have K1 := Lib.hid k1; have K2 := Lib.hid k2; clear k1 k2))
  go_ret
  refine ⟨_, rfl, K1.out.lower H3.out.size, H2.out.below K2.out, only_trans H3.out (grown_of_below K2.out _), fun X hX => ?_⟩
  obtain ⟨sv, b1, r1, n1⟩ := H2.out
  have far : ∀ g, g < w1.heap.size → X.heap[g]? = w1.heap[g]? := fun g hg => by
    rw [hX.block g (Nat.lt_of_lt_of_le hg K2.out.size) (fun q => by have := (K1.out.from g q.symm).1; omega)]
    exact K2.out.block g hg
  exact ⟨sv, (far rb b1.lt).trans b1, r1.keep fun g _ hg => far g hg, n1⟩
theorem Own.head {w : World} {base : Nat} {ao : Option Addr} {n cap : Nat} {l : List Nat} (h : Own w base (.slice ao n cap) l) (hl : 0 < l.length) : ∃ g, ao = some ⟨g, 0, none⟩ ∧ base ≤ g ∧ n = l.length := by
  rcases h.1.2 with ⟨_, q⟩ | ⟨g, c, cur, e, hb, _⟩
  · omega
  · injection e with e1 e2 _
    exact ⟨g, e1, hb, e2⟩
theorem only_more {a b c : World} {r : Nat} {row : Option Nat} (h : a.grownBy b (some r)) (k : b.grownBy c row) (hr : ∀ g, row = some g → a.heap.size ≤ g) : a.grownBy c (some r) :=
  ⟨k.os.trans h.os, k.tape.trans h.tape, k.output.trans h.output, Nat.le_trans h.size k.size, fun i hi hne => (k.block i (Nat.lt_of_lt_of_le hi h.size) (fun q => by have := hr i q.symm; omega)).trans (h.block i hi hne)⟩
set_option maxHeartbeats 2000000 in
theorem do_take (w0 w : World) (rb : Nat) (sv : Value) (l : List Nat) (e : Int) (K : Nat) (N : Int) (hw : Below w0.heap.size w0 w) (hs : Rd w0 sv l) (hR : Rdr w rb l e) (he : e ≠ 0 → l = []) (hj : K % 6 = 4) :
    Calls Try.prog 22 #[.pointer (some ⟨rb, 0, none⟩), refv sv e, .agg #[.int .u8 (K : Nat), .int .i64 N]] w fun ev w' => ∃ sv', ev = .returned (.tuple #[refv sv' (rpErr l e N), .bool true]) ∧ Did w0 w w' rb sv' (rpLeft l e N) (rpErr l e N) := by
  have hby := hR.byte
  obtain ⟨ao, cap, rfl, _⟩ := hs.shape
  have b0 := below3 w (.cells #[.slice ao l.length cap, .int .i64 e] 46) (.cells #[.int .u8 (K : Nat), .int .i64 N] 50) (.cells #[.slice none 0 0, .int .i64 0] 46)
  have k0 : Blk (((w.alloc (.cells #[.slice ao l.length cap, .int .i64 e] 46)).alloc (.cells #[.int .u8 (K : Nat), .int .i64 N] 50)).alloc (.cells #[.slice none 0 0, .int .i64 0] 46)) (w.heap.size + 1 + 1) 46 [.slice none 0 0, .int .i64 0] := Blk.new _ _ _ _ (by simp)
  have j0 : Blk (((w.alloc (.cells #[.slice ao l.length cap, .int .i64 e] 46)).alloc (.cells #[.int .u8 (K : Nat), .int .i64 N] 50)).alloc (.cells #[.slice none 0 0, .int .i64 0] 46)) (w.heap.size + 1) 50 [.int .u8 (K : Nat), .int .i64 N] := (Blk.new _ _ _ _ (by simp)).alloc _
  have ht := refTake_any _ _ l e N ((hs.below hw).below b0) he
  have hrb := hR.lt
  have ek : ((K : Nat) : Int).tmod 6 = 4 := by
    have h1 : ((K : Nat) : Int).tmod 6 = ((K % 6 : Nat) : Int) := by rw [Int.tmod_eq_emod_of_nonneg (by omega)]; omega
    rw [h1, hj]; rfl
  have hu := fun X (hX : Rdr X rb l e) => take_any2 X rb l e N hX
  have hgb := rpGot_byte hby e N
  obtain ⟨G, hG⟩ : ∃ G, G = rpGot l e N := ⟨_, rfl⟩
  obtain ⟨E, hE⟩ : ∃ E, E = rpErr l e N := ⟨_, rfl⟩
  obtain ⟨D, hD⟩ : ∃ D, D = rpLeft l e N := ⟨_, rfl⟩
  simp only [← hG, ← hE, ← hD] at ht hu hgb ⊢
  have HT := Lib.hid ht
  have HU := Lib.hid hu
  have HGB := Lib.hid hgb
  have B0 := Lib.hid b0
  have K0 := Lib.hid k0
  have J0 := Lib.hid j0
  have HR := Lib.hid hR
  have HS := Lib.hid hs
  clear ht b0 k0 j0 hR hs hw he hj hby hu hG hE hD hgb
  go_enter Try.func22, Try.ntmps22
  go_wp2_with (first
    | (go_at_call 34; refine Calls.mono HT.out ?_; rintro ev w1 ⟨sv', v17, rfl, h1, h2, h3⟩; obtain ⟨a1, c1, rfl, _⟩ := (h1 _ HS.out).shape; have S1 := Lib.hid (h1 _ HS.out); have B1 := Lib.hid (B0.out.on h3); have k1 := K0.out.below h3 K0.out.lt; have j1 := (J0.out.below h3 J0.out.lt).cell 1 _ rfl; have hlt1 := k1.lt; have K1 := Lib.hid k1; have j2 := ((J0.out.below h3 J0.out.lt).alloc (.cells #[.slice a1 D.length c1, .int .i64 E] 46)).cell 1 _ rfl; have M1 := Lib.hid (k1.alloc (.cells #[.slice a1 D.length c1, .int .i64 E] 46)); have V1 := Lib.hid h2; have BW := Lib.hid (B1.out.alloc B1.out.size (.cells #[.slice a1 D.length c1, .int .i64 E] 46)); have N1 := Lib.hid (Blk.new w1 46 [.slice a1 D.length c1, .int .i64 E] w1.heap.size rfl); clear h1 h2 h3 k1)
    | (go_at_call 30; refine Calls.mono (HU.out _ (HR.out.below BW.out)) ?_; rintro ev w2 ⟨v18, rfl, q1, q2, q3, q4⟩; have O2 := Lib.hid q1; have KP := Lib.hid q4; have G2 := Lib.hid q3; have s18 := q1.rd.str; have s17 := (((V1.out.rd).alloc (.cells #[.slice a1 D.length c1, .int .i64 E] 46)).grown q3 (.inr (fun q => by have h := (V1.out.from rb q).1; simp at h; omega))).str; clear q1 q2 q3 q4))
  have h18 := O2.out.rd.shape
  obtain ⟨a18, c18, rfl, hc18⟩ := h18
  have n2 := N1.out.grown G2.out (by simp; omega)
  have m2 := M1.out.grown G2.out (by simp; omega)
  have bw := only_after BW.out G2.out
  have hge := O2.out.from
  have hne16 : (Value.slice a18 G.length c18).ownBlock ≠ some w1.heap.size := fun q => by have := (hge _ q).1; simp at this; omega
  have hne6 : (Value.slice a18 G.length c18).ownBlock ≠ some (w.heap.size + 1 + 1) := fun q => by have := (hge _ q).1; simp at this; omega
  have hge' : ∀ g, (Value.slice a18 G.length c18).ownBlock = some g → w.heap.size + 2 < g := fun g q => by have := (hge g q).1; simp at this; omega
  have O2' := Lib.hid (show Own w2 w.heap.size (.slice a18 G.length c18) (incK G 0) by rw [incK_zero]; exact O2.out.lower (by have := BW.out.size; exact this))
  have N2 := Lib.hid n2
  have M2 := Lib.hid m2
  have B2 := Lib.hid bw
  have HG16 := Lib.hid hne16
  have HG6 := Lib.hid hne6
  have HGE := Lib.hid hge'
  clear n2 m2 bw hge hne16 hne6 hge' N1 M1 BW O2 V1 B1 K1 s17 s18 j1 j2
  go_loopw [20] (fun i wr => ∃ k : Nat, k ≤ G.length ∧ i = .int .i64 k ∧ Own wr w.heap.size (.slice a18 G.length c18) (incK G k) ∧ w2.grownBy wr (Value.slice a18 G.length c18).ownBlock) (fun i _ => G.length - (intOf i).toNat)
  case atStart => exact ⟨0, Nat.zero_le _, rfl, O2'.out, World.grownBy.refl _ _⟩
  case round =>
    clear O2'
    obtain ⟨k, hk, rfl, o0, g0⟩ := hrel
    have O := Lib.hid o0
    have GG := Lib.hid g0
    clear o0 g0
    have hfit : G.length ≤ 140737488351232 := by have h := O.out.2.2; rw [incK_len] at h; exact h
    by_cases hlt : k < G.length
    · obtain ⟨g, rfl, _, _⟩ := O.out.head (by rw [incK_len]; omega)
      have cx := O.out.cell (by rw [incK_len]) k (by rw [incK_len]; exact hlt)
      rw [incK_at G k hlt] at cx
      have fx := O.out.free (by rw [incK_len]) k
      have hb := HGB.out k
      obtain ⟨b, hbb⟩ : ∃ b, b = gb G k := ⟨_, rfl⟩
      rw [← hbb] at cx hb
      have HBB := Lib.hid hbb
      clear hbb
      go_wp2_with fail
      have ex : ((b : Int) + 1) % 256 = (((b + 1) % 256 : Nat) : Int) := by omega
      have hlen : (incK G k).length = G.length := incK_len G k
      have x1 : Own wr w.heap.size (.slice (some ⟨g, 0, none⟩) (incK G k).length c18) (incK G k) := by rw [hlen]; exact O.out
      have x2 := x1.set k ((b + 1) % 256) (Nat.mod_lt _ (by omega)) (by rw [hlen]; exact hlt)
      rw [hlen, ← ex] at x2
      rw [HBB.out, incK_step G k hlt, ← HBB.out] at x2
      exact ⟨⟨k + 1, by omega, by go_num, x2, only_set (p := ⟨g, k, none⟩) GG.out (.inl rfl) _⟩, by simp [intOf]; omega⟩
    · obtain rfl : k = G.length := by omega
      have n3 := N2.out.grown GG.out (fun z => HG16.out z.symm)
      have m3 := M2.out.grown GG.out (fun z => HG6.out z.symm)
      have c0 := n3.cell 0 _ rfl
      have c1' := n3.cell 1 _ rfl
      have d0 := m3.cell 0 _ rfl
      have d1 := m3.cell 1 _ rfl
      have f0 := m3.free 0
      have f1 := m3.free 1
      have M3 := Lib.hid m3
      have Q3 := Lib.hid (KP.out wr GG.out)
      clear n3 m3
      go_wp2_with fail
      have on := only_more B2.out GG.out (fun g q => by have := HGE.out g q; omega)
      exact bodyPost_ret (results_mid2 rfl _ _ (w.heap.size + 1 + 1) [.slice a1 D.length c1, .int .i64 E] _ rfl (cell_final M3.out _ _) Try.underlying46 rfl infoRd) rfl ⟨_, rfl, S1.out, Q3.out.far2 M3.out (by omega), only_final on (by omega) _ _⟩
end Go.Proofs.Ytngflmdlgaeokaa

/- Texts of one subject in one file: RefCalls, RefText. Own work. -/
import Derived.Test.YtenigdbnfepkeaaDoorRdrX
import Derived.Test.YtenigdbnfepkeaaDoorEqX
import Derived.Deep.RegionLaw
/- The document's reader, a struct by value: contracts. Own work. -/
namespace Go.Proofs.YtenigdbnfepkeaaDoor
open Go.RowKit
theorem infoRd : (Tryd.prog.info? 65).map (·.size) = some 2 := by kernel_rfl
/-- The document's reader: its value. -/
abbrev refv (sv : Value) (e : Int) : Value := .agg #[sv, .int .i64 e]
theorem stop_any (w : World) (e : Int) : Calls Tryd.prog 65 #[.int .i64 e] w fun ev w' => ev = .returned (refv (.slice none 0 0) e) ∧ Below w.heap.size w w' := by
  go_enter Tryd.func65, Tryd.ntmps65
  go_wp2_with fail
  exact bodyPost_ret (results_mid rfl _ _ w.heap.size [.slice none 0 0, .int .i64 e] _ rfl (rangeAt_new w _ _) Tryd.underlying65 rfl infoRd) rfl ⟨rfl, (Below.refl _ _).alloc (Nat.le_refl _) _⟩
theorem below2 (w : World) (o o' : Obj) : Below w.heap.size w ((w.alloc o).alloc o') := ((Below.refl _ _).alloc (Nat.le_refl _) o).alloc (by simp) o'
set_option maxHeartbeats 400000 in
theorem rtake_old (w : World) (sv : Value) (l : List Nat) (e n : Int) (h : Rd w sv l) (he : e ≠ 0) : Calls Tryd.prog 51 #[refv sv e, .int .i64 n] w fun ev w' => ev = .returned (.tuple #[refv sv e, .slice none 0 0]) ∧ Below w.heap.size w w' := by
  obtain ⟨ao, cap, rfl, _⟩ := h.shape
  clear h
  go_enter Tryd.func51, Tryd.ntmps51
  go_wp2_with fail
  exact bodyPost_ret (results_mid2 rfl _ _ (w.heap.size + 1) [.slice ao l.length cap, .int .i64 e] _ rfl (rangeAt_at _ _ _ _ (by simp)) Tryd.underlying65 rfl infoRd) rfl ⟨rfl, below2 w _ _⟩
theorem cell_final {w : World} {b : Nat} {t : TypeId} {x y : Value} (h : Blk w b t [x, y]) (u v : Value) : ((w.setCell ⟨b, 0, none⟩ u).setCell ⟨b, 1, none⟩ v).rangeAt b 0 [u, v] := ((h.set 0 u).set 1 v).range
theorem below_final {B : Nat} {a w : World} {b : Nat} (h : Below B a w) (hb : B ≤ b) (u v : Value) : Below B a ((w.setCell ⟨b, 0, none⟩ u).setCell ⟨b, 1, none⟩ v) := (h.setCell hb u).setCell hb v
theorem own_final {base : Nat} {w : World} {b : Nat} {v : Value} {l : List Nat} (h : Own w base v l) (hb : b < base) (x y : Value) : Own ((w.setCell ⟨b, 0, none⟩ x).setCell ⟨b, 1, none⟩ y) base v l :=
  h.keep (only_set (only_set (World.grownBy.refl w (some b)) (.inl rfl) x) (.inl rfl) y) (.inr fun e => by have := (h.from b e).1; omega)
set_option maxHeartbeats 400000 in
theorem rtake_bad (w : World) (sv : Value) (l : List Nat) (n : Int) (h : Rd w sv l) (hk : lookP n l.length ≠ 0) : Calls Tryd.prog 51 #[refv sv 0, .int .i64 n] w fun ev w' => ev = .returned (.tuple #[refv (.slice none 0 0) (lookP n l.length), .slice none 0 0]) ∧ Below w.heap.size w w' := by
  obtain ⟨ao, cap, rfl, _⟩ := h.shape
  clear h
  have b0 := Lib.hid (below2 w (.cells #[.slice ao l.length cap, .int .i64 0] 65) (.cells #[.slice none 0 0, .int .i64 0] 65))
  have k0 := Lib.hid (Blk.new (w.alloc (.cells #[.slice ao l.length cap, .int .i64 0] 65)) 65 [.slice none 0 0, .int .i64 0] (w.heap.size + 1) (by simp))
  by_cases h0 : n < 0
  · have e2 : lookP n l.length = 2 := by unfold lookP; rw [if_pos h0]
    rw [e2]
    clear hk e2
    go_enter Tryd.func51, Tryd.ntmps51
    go_wp2_with (go_at_call 65; refine (stop_any _ 2).mono ?_; rintro ev w1 ⟨rfl, k1⟩; have q1 := k0.out.below k1 k0.out.lt; have c0 := q1.cell 0 _ rfl; have c1 := q1.cell 1 _ rfl; have f0 := q1.free 0; have f1 := q1.free 1; have Q1 := Lib.hid q1; have K1 := Lib.hid k1; clear q1 k1)
    exact bodyPost_ret (results_mid2 rfl _ _ (w.heap.size + 1) [.slice none 0 0, .int .i64 2] _ rfl (cell_final Q1.out _ _) Tryd.underlying65 rfl infoRd) rfl ⟨rfl, below_final (b0.out.on K1.out) (by omega) _ _⟩
  · have h1 : (l.length : Int) < n := by
      unfold lookP at hk
      rw [if_neg h0] at hk
      split at hk
      · assumption
      · exact absurd rfl hk
    have e2 : lookP n l.length = 3 := by unfold lookP; rw [if_neg h0, if_pos h1]
    rw [e2]
    clear hk e2
    go_enter Tryd.func51, Tryd.ntmps51
    go_wp2_with (go_at_call 65; refine (stop_any _ 3).mono ?_; rintro ev w1 ⟨rfl, k1⟩; have q1 := k0.out.below k1 k0.out.lt; have c0 := q1.cell 0 _ rfl; have c1 := q1.cell 1 _ rfl; have f0 := q1.free 0; have f1 := q1.free 1; have Q1 := Lib.hid q1; have K1 := Lib.hid k1; clear q1 k1)
    exact bodyPost_ret (results_mid2 rfl _ _ (w.heap.size + 1) [.slice none 0 0, .int .i64 3] _ rfl (cell_final Q1.out _ _) Tryd.underlying65 rfl infoRd) rfl ⟨rfl, below_final (b0.out.on K1.out) (by omega) _ _⟩
set_option maxHeartbeats 1000000 in
theorem rtake_ok (w : World) (sv : Value) (l : List Nat) (n : Nat) (h : Rd w sv l) (hk : n ≤ l.length) : Calls Tryd.prog 51 #[refv sv 0, .int .i64 n] w fun ev w' => ∃ sv' v, ev = .returned (.tuple #[refv sv' 0, v]) ∧ (∀ W, Rd W sv l → Rd W sv' (l.drop n)) ∧ Own w' w.heap.size v (l.take n) ∧ Below w.heap.size w w' := by
  obtain ⟨ao, cap, rfl, hcap⟩ := h.shape
  have hnc : n ≤ cap := by omega
  have hfit := h.fits
  have HL := Lib.hid (show ([] : List Nat).length + (l.take n).length ≤ 140737488355328 by rw [List.length_take]; simp; omega)
  obtain ⟨W, hW⟩ : ∃ W, W = ((w.alloc (.cells #[.slice ao l.length cap, .int .i64 0] 65)).alloc (.cells #[.slice none 0 0, .int .i64 0] 65)) := ⟨_, rfl⟩
  have b0 : Below w.heap.size w W := by rw [hW]; exact below2 w _ _
  have hsz : w.heap.size + 2 = W.heap.size := by rw [hW]; simp
  have k0 : Blk W w.heap.size 65 [.slice ao l.length cap, .int .i64 0] := by rw [hW]; exact (Blk.new w _ _ _ rfl).alloc _
  have k1 : Blk W (w.heap.size + 1) 65 [.slice none 0 0, .int .i64 0] := by rw [hW]; exact Blk.new _ _ _ _ (by simp)
  have E1 : Own ((W.alloc (.cells #[] 5)).drew) (w.heap.size + 1 + 1) (.slice (some ⟨w.heap.size + 1 + 1, 0, none⟩) 0 0) [] := (own_empty W (by omega) (by omega)).drew
  have HS := Lib.hid (show w.heap.size + 1 + 1 ≤ ((W.alloc (.cells #[] 5)).drew).heap.size by simp; omega)
  have b1 : Below w.heap.size w ((W.alloc (.cells #[] 5)).drew) := (b0.alloc (by omega) _).drew
  have EO := Lib.hid E1
  have EB := Lib.hid b1
  have ET := Lib.hid ((h.take n hk).below b1)
  have ED := Lib.hid (fun W (hW : Rd W (.slice ao l.length cap) l) => hW.drop n hk)
  have K0 := Lib.hid (show Blk ((W.alloc (.cells #[] 5)).drew) w.heap.size 65 [.slice ao l.length cap, .int .i64 0] from (k0.alloc _).drew)
  have K1 := Lib.hid (show Blk ((W.alloc (.cells #[] 5)).drew) (w.heap.size + 1) 65 [.slice none 0 0, .int .i64 0] from (k1.alloc _).drew)
  subst hW
  clear h b0 hsz k0 k1 E1 b1
  go_enter Tryd.func51, Tryd.ntmps51
  go_wp2_with fail
  go_region_law (refine step_app rfl (.tmp 27) (.tmp 31) rfl (w.heap.size + 1 + 1) (.slice (some ⟨w.heap.size + 1 + 1, 0, none⟩) 0 0) (.slice ao n cap) [] (l.take n) rfl rfl EO.out ET.out HL.out HS.out ?_; intro v3 w3 ho hg hk3; have r0 := (K0.out.grown hg (by simp [Value.ownBlock]; omega)); have r1 := (K1.out.grown hg (by simp [Value.ownBlock])); have c0 := r0.cell 0 _ rfl; have c1 := r0.cell 1 _ rfl; have d0 := r1.cell 0 _ rfl; have d1 := r1.cell 1 _ rfl; have g0 := r1.free 0; have g1 := r1.free 1; have R1 := Lib.hid r1; have O3 := Lib.hid ho; have G3 := Lib.hid (EB.out.grown hg EB.out.size (fun k hk => by have := (EO.out.from k hk).1; omega)); clear ho hg hk3 r0 r1)
  all_goals clear EO EB ET HS K0 K1
  all_goals generalize (Value.slice (if cap = n then ao else Option.map (fun x => x.add n) ao) (l.length - n) (cap - n)) = V at *
  all_goals go_wp2_with fail
  all_goals exact bodyPost_ret (results_mid2 rfl _ _ (w.heap.size + 1) [V, .int .i64 0] _ rfl (cell_final R1.out _ _) Tryd.underlying65 rfl infoRd) rfl ⟨V, v3, rfl, ED.out, (own_final O3.out (by omega) _ _).lower (by omega), below_final G3.out (by omega) _ _⟩
/-- The document's Take, for whatever reader of it. -/
theorem refTake_any (w : World) (sv : Value) (l : List Nat) (e n : Int) (h : Rd w sv l) (hl : e ≠ 0 → l = []) : Calls Tryd.prog 51 #[refv sv e, .int .i64 n] w fun ev w' => ∃ sv' v, ev = .returned (.tuple #[refv sv' (rpErr l e n), v]) ∧ (∀ W, Rd W sv l → Rd W sv' (rpLeft l e n)) ∧ Own w' w.heap.size v (rpGot l e n) ∧ Below w.heap.size w w' := by
  by_cases he : e = 0
  · subst he
    by_cases hk : lookP n l.length = 0
    · have hn : 0 ≤ n ∧ n ≤ l.length := by
        unfold lookP at hk
        split at hk
        · cases hk
        · split at hk
          · cases hk
          · omega
      obtain ⟨m, rfl⟩ : ∃ m : Nat, n = (m : Int) := ⟨n.toNat, by omega⟩
      unfold rpGot rpLeft rpErr
      rw [if_pos rfl, if_pos ⟨rfl, hk⟩, if_pos ⟨rfl, hk⟩, hk, Int.toNat_natCast]
      exact rtake_ok w sv l m h (by omega)
    · unfold rpGot rpLeft rpErr
      rw [if_pos rfl, if_neg (fun h => hk h.2), if_neg (fun h => hk h.2)]
      exact (rtake_bad w sv l n h hk).mono fun ev w' ⟨h1, h2⟩ => ⟨_, _, h1, fun W _ => Rd.none_ W, (own_nil w').lower h2.size, h2⟩
  · have := hl he
    subst this
    unfold rpGot rpLeft rpErr
    rw [if_neg he, if_neg (fun h => he h.1), if_neg (fun h => he h.1)]
    exact (rtake_old w sv [] e n h he).mono fun ev w' ⟨h1, h2⟩ => ⟨_, _, h1, fun _ hW => hW, (own_nil w').lower h2.size, h2⟩
end Go.Proofs.YtenigdbnfepkeaaDoor
/- The document's reader, a struct by value: its numbers and texts. Own work. -/
namespace Go.Proofs.YtenigdbnfepkeaaDoor
open Go.RowKit
set_option maxHeartbeats 1000000 in
theorem refNumber_any (w : World) (sv : Value) (l : List Nat) (e n : Int) (h : Rd w sv l) (hl : e ≠ 0 → l = []) : Calls Tryd.prog 28 #[refv sv e, .int .i64 n] w fun ev w' => ∃ sv', ev = .returned (.tuple #[refv sv' (rpErr l e n), .int .u64 (num (rpGot l e n) : Nat)]) ∧ (∀ W, Rd W sv l → Rd W sv' (rpLeft l e n)) ∧ Below w.heap.size w w' := by
  have hby := rpGot_byte h.byte e n
  obtain ⟨ao, cap, rfl, _⟩ := h.shape
  have b0 := below2 w (.cells #[.slice ao l.length cap, .int .i64 e] 65) (.cells #[.slice none 0 0, .int .i64 0] 65)
  have k0 : Blk ((w.alloc (.cells #[.slice ao l.length cap, .int .i64 e] 65)).alloc (.cells #[.slice none 0 0, .int .i64 0] 65)) (w.heap.size + 1) 65 [.slice none 0 0, .int .i64 0] := Blk.new _ _ _ _ (by simp)
  have ht := refTake_any _ _ l e n (h.below b0) hl
  obtain ⟨L, hL⟩ : ∃ L, L = rpGot l e n := ⟨_, rfl⟩
  rw [← hL] at ht hby ⊢
  obtain ⟨E, hE⟩ : ∃ E, E = rpErr l e n := ⟨_, rfl⟩
  rw [← hE] at ht ⊢
  have HY := Lib.hid hby
  have HT := Lib.hid ht
  have B0 := Lib.hid b0
  have RB := Lib.hid (h.below b0)
  have K0 := Lib.hid k0
  clear ht hL hE hby b0 k0 h hl
  go_enter Tryd.func28, Tryd.ntmps28
  go_wp2_with (go_at_call 51; refine Calls.mono HT.out ?_; rintro ev w1 ⟨sv', v, rfl, h1, h2, h3⟩; obtain ⟨a1, c1, rfl, _⟩ := (h1 _ RB.out).shape; obtain ⟨a2, c2, rfl, _⟩ := h2.rd.shape; have S1 := Lib.hid h1; have V1 := Lib.hid h2.rd; have B1 := Lib.hid (B0.out.on h3); have K1 := Lib.hid (K0.out.below h3 K0.out.lt); clear h1 h2 h3)
  have hlt1 := K1.out.lt
  have V2 := Lib.hid (V1.out.alloc (.cells #[.slice a1 (rpLeft l e n).length c1, .int .i64 E] 65))
  have d0 := K1.out.cell 0 _ rfl
  have d1 := K1.out.cell 1 _ rfl
  have g0 := K1.out.free 0
  have g1 := K1.out.free 1
  have hfit := V2.out.fits
  have hsz := B1.out.size
  clear V1
  go_loop [8, 9] (fun a i => ∃ k : Nat, k ≤ L.length ∧ i = .int .i64 k ∧ a = .int .u64 ((num (L.take k) : Nat) : Int)) (fun _ i => L.length - (intOf i).toNat)
  case atStart => exact ⟨0, Nat.zero_le _, rfl, rfl⟩
  case round =>
    obtain ⟨k, hk, rfl, rfl⟩ := hrel
    by_cases hlt : k < L.length
    · obtain ⟨ad, rfl, hc⟩ := V2.out.at_ k hlt
      have hn := num_lt (L.take k) (gb_take_byte L k HY.out)
      have hb := HY.out k
      obtain ⟨A, hA⟩ : ∃ A, A = num (L.take k) := ⟨_, rfl⟩
      obtain ⟨b, hbb⟩ : ∃ b, b = gb L k := ⟨_, rfl⟩
      rw [← hA] at hn ⊢
      rw [← hbb] at hb hc
      have HA := Lib.hid hA
      have HBB := Lib.hid hbb
      clear hA hbb
      go_wp2_with fail
      refine ⟨⟨k + 1, by omega, by go_num, ?_⟩, by simp [intOf]; omega⟩
      rw [or_step A b hb, num_take L k hlt, HA.out, HBB.out]
    · obtain rfl : k = L.length := by omega
      go_wp2_with fail
      exact bodyPost_ret (results_mid2 rfl _ _ (w.heap.size + 1) [.slice a1 (rpLeft l e n).length c1, .int .i64 E] _ rfl ((cell_final K1.out _ _).alloc _) Tryd.underlying65 rfl infoRd) rfl ⟨_, rfl, S1.out, (below_final B1.out (by omega) _ _).alloc (by simpa using hsz) _⟩

/-- Behind the first byte, where it is there. -/
theorem one_left {l : List Nat} (hl : 0 < l.length) : rpErr l 0 1 = 0 ∧ rpLeft l 0 1 = l.drop 1 ∧ num (rpGot l 0 1) = gb l 0 := by
  have hk : lookP 1 l.length = 0 := by unfold lookP; rw [if_neg (by omega), if_neg (by omega)]
  refine ⟨by unfold rpErr; rw [if_pos rfl, hk], by unfold rpLeft; rw [if_pos ⟨rfl, hk⟩]; rfl, ?_⟩
  unfold rpGot; rw [if_pos ⟨rfl, hk⟩]
  cases l with
  | nil => simp at hl
  | cons x r => show num [x] = x; simp [num, numStep]
end Go.Proofs.YtenigdbnfepkeaaDoor

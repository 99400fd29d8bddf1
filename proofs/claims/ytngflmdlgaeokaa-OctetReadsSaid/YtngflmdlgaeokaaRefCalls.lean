/- The document's reader, a struct by value: contracts. Own work. -/
import Derived.Test.YtngflmdlgaeokaaNumCalls
import Derived.Deep.RegionLaw
namespace Go.Proofs.Ytngflmdlgaeokaa
open Go.RowKit
theorem infoRd : (Try.prog.info? 46).map (·.size) = some 2 := by kernel_rfl
/-- Results that are a row of cells, out of the variable in which it stands, and a slot. -/
theorem results_mid2 {P : Program} {fn : Func} {p t : Tmp} {ty : TypeId} (h : fn.results = #[.cell p ty, .tmp t]) (tmps : Array Value) (w : World) (b : Nat) (cs : List Value) (d : TypeDesc)
    (hp : tmps.getD p undef = .pointer (some ⟨b, 0, none⟩)) (hr : w.rangeAt b 0 cs) (hu : P.underlying ty = some d) (hd : d.isRow = true) (hi : (P.info? ty).map (·.size) = some cs.length) :
    (results fn tmps).run P w = .ok (.tuple #[.agg cs.toArray, tmps.getD t undef]) w := by
  have hp' : tmps[p]?.getD undef = .pointer (some ⟨b, 0, none⟩) := by simpa using hp
  simp [results, h, hp', asAddr, run_loadVar_mid w b 0 ty cs d hr hu hd hi]
/-- The document's reader: its value. -/
abbrev refv (sv : Value) (e : Int) : Value := .agg #[sv, .int .i64 e]
theorem stop_any (w : World) (e : Int) : Calls Try.prog 40 #[.int .i64 e] w fun ev w' => ev = .returned (refv (.slice none 0 0) e) ∧ Below w.heap.size w w' := by
  go_enter Try.func40, Try.ntmps40
  go_wp2_with fail
  exact bodyPost_ret (results_mid rfl _ _ w.heap.size [.slice none 0 0, .int .i64 e] _ rfl (rangeAt_new w _ _) Try.underlying46 rfl infoRd) rfl ⟨rfl, (Below.refl _ _).alloc (Nat.le_refl _) _⟩
theorem below2 (w : World) (o o' : Obj) : Below w.heap.size w ((w.alloc o).alloc o') := ((Below.refl _ _).alloc (Nat.le_refl _) o).alloc (by simp) o'
set_option maxHeartbeats 400000 in
theorem rtake_old (w : World) (sv : Value) (l : List Nat) (e n : Int) (h : Rd w sv l) (he : e ≠ 0) : Calls Try.prog 34 #[refv sv e, .int .i64 n] w fun ev w' => ev = .returned (.tuple #[refv sv e, .slice none 0 0]) ∧ Below w.heap.size w w' := by
  obtain ⟨ao, cap, rfl, _⟩ := h.shape
  clear h
  go_enter Try.func34, Try.ntmps34
  go_wp2_with fail
  exact bodyPost_ret (results_mid2 rfl _ _ (w.heap.size + 1) [.slice ao l.length cap, .int .i64 e] _ rfl (rangeAt_at _ _ _ _ (by simp)) Try.underlying46 rfl infoRd) rfl ⟨rfl, below2 w _ _⟩
theorem cell_final {w : World} {b : Nat} {t : TypeId} {x y : Value} (h : Blk w b t [x, y]) (u v : Value) : ((w.setCell ⟨b, 0, none⟩ u).setCell ⟨b, 1, none⟩ v).rangeAt b 0 [u, v] := ((h.set 0 u).set 1 v).range
theorem below_final {B : Nat} {a w : World} {b : Nat} (h : Below B a w) (hb : B ≤ b) (u v : Value) : Below B a ((w.setCell ⟨b, 0, none⟩ u).setCell ⟨b, 1, none⟩ v) := (h.setCell hb u).setCell hb v
theorem own_final {base : Nat} {w : World} {b : Nat} {v : Value} {l : List Nat} (h : Own w base v l) (hb : b < base) (x y : Value) : Own ((w.setCell ⟨b, 0, none⟩ x).setCell ⟨b, 1, none⟩ y) base v l :=
  h.keep (only_set (only_set (World.grownBy.refl w (some b)) (.inl rfl) x) (.inl rfl) y) (.inr fun e => by have := (h.from b e).1; omega)
set_option maxHeartbeats 400000 in
theorem rtake_bad (w : World) (sv : Value) (l : List Nat) (n : Int) (h : Rd w sv l) (hk : lookP n l.length ≠ 0) : Calls Try.prog 34 #[refv sv 0, .int .i64 n] w fun ev w' => ev = .returned (.tuple #[refv (.slice none 0 0) (lookP n l.length), .slice none 0 0]) ∧ Below w.heap.size w w' := by
  obtain ⟨ao, cap, rfl, _⟩ := h.shape
  clear h
  have b0 := Lib.hid (below2 w (.cells #[.slice ao l.length cap, .int .i64 0] 46) (.cells #[.slice none 0 0, .int .i64 0] 46))
  have k0 := Lib.hid (Blk.new (w.alloc (.cells #[.slice ao l.length cap, .int .i64 0] 46)) 46 [.slice none 0 0, .int .i64 0] (w.heap.size + 1) (by simp))
  by_cases h0 : n < 0
  · have e2 : lookP n l.length = 2 := by unfold lookP; rw [if_pos h0]
    rw [e2]
    clear hk e2
    go_enter Try.func34, Try.ntmps34
    go_wp2_with (go_at_call 40; refine (stop_any _ 2).mono ?_; rintro ev w1 ⟨rfl, k1⟩; have q1 := k0.out.below k1 k0.out.lt; have c0 := q1.cell 0 _ rfl; have c1 := q1.cell 1 _ rfl; have f0 := q1.free 0; have f1 := q1.free 1; have Q1 := Lib.hid q1; have K1 := Lib.hid k1; clear q1 k1)
    exact bodyPost_ret (results_mid2 rfl _ _ (w.heap.size + 1) [.slice none 0 0, .int .i64 2] _ rfl (cell_final Q1.out _ _) Try.underlying46 rfl infoRd) rfl ⟨rfl, below_final (b0.out.on K1.out) (by omega) _ _⟩
  · have h1 : (l.length : Int) < n := by
      unfold lookP at hk
      rw [if_neg h0] at hk
      split at hk
      · assumption
      · exact absurd rfl hk
    have e2 : lookP n l.length = 3 := by unfold lookP; rw [if_neg h0, if_pos h1]
    rw [e2]
    clear hk e2
    go_enter Try.func34, Try.ntmps34
    go_wp2_with (go_at_call 40; refine (stop_any _ 3).mono ?_; rintro ev w1 ⟨rfl, k1⟩; have q1 := k0.out.below k1 k0.out.lt; have c0 := q1.cell 0 _ rfl; have c1 := q1.cell 1 _ rfl; have f0 := q1.free 0; have f1 := q1.free 1; have Q1 := Lib.hid q1; have K1 := Lib.hid k1; clear q1 k1)
    exact bodyPost_ret (results_mid2 rfl _ _ (w.heap.size + 1) [.slice none 0 0, .int .i64 3] _ rfl (cell_final Q1.out _ _) Try.underlying46 rfl infoRd) rfl ⟨rfl, below_final (b0.out.on K1.out) (by omega) _ _⟩
set_option maxHeartbeats 1000000 in
theorem rtake_ok (w : World) (sv : Value) (l : List Nat) (n : Nat) (h : Rd w sv l) (hk : n ≤ l.length) : Calls Try.prog 34 #[refv sv 0, .int .i64 n] w fun ev w' => ∃ sv' v, ev = .returned (.tuple #[refv sv' 0, v]) ∧ (∀ W, Rd W sv l → Rd W sv' (l.drop n)) ∧ Own w' w.heap.size v (l.take n) ∧ Below w.heap.size w w' := by
  obtain ⟨ao, cap, rfl, hcap⟩ := h.shape
  have hnc : n ≤ cap := by omega
  have hfit := h.fits
  have HL := Lib.hid (show ([] : List Nat).length + (l.take n).length ≤ 140737488351232 by rw [List.length_take]; simp; omega)
  obtain ⟨W, hW⟩ : ∃ W, W = ((w.alloc (.cells #[.slice ao l.length cap, .int .i64 0] 46)).alloc (.cells #[.slice none 0 0, .int .i64 0] 46)) := ⟨_, rfl⟩
  have b0 : Below w.heap.size w W := by rw [hW]; exact below2 w _ _
  have hsz : w.heap.size + 2 = W.heap.size := by rw [hW]; simp
  have k0 : Blk W w.heap.size 46 [.slice ao l.length cap, .int .i64 0] := by rw [hW]; exact (Blk.new w _ _ _ rfl).alloc _
  have k1 : Blk W (w.heap.size + 1) 46 [.slice none 0 0, .int .i64 0] := by rw [hW]; exact Blk.new _ _ _ _ (by simp)
  have E1 : Own ((W.alloc (.cells #[] 5)).drew) (w.heap.size + 1 + 1) (.slice (some ⟨w.heap.size + 1 + 1, 0, none⟩) 0 0) [] := (own_empty W (by omega) (by omega)).drew
  have HS := Lib.hid (show w.heap.size + 1 + 1 ≤ ((W.alloc (.cells #[] 5)).drew).heap.size by simp; omega)
  have b1 : Below w.heap.size w ((W.alloc (.cells #[] 5)).drew) := (b0.alloc (by omega) _).drew
  have EO := Lib.hid E1
  have EB := Lib.hid b1
  have ET := Lib.hid ((h.take n hk).below b1)
  have ED := Lib.hid (fun W (hW : Rd W (.slice ao l.length cap) l) => hW.drop n hk)
  have K0 := Lib.hid (show Blk ((W.alloc (.cells #[] 5)).drew) w.heap.size 46 [.slice ao l.length cap, .int .i64 0] from (k0.alloc _).drew)
  have K1 := Lib.hid (show Blk ((W.alloc (.cells #[] 5)).drew) (w.heap.size + 1) 46 [.slice none 0 0, .int .i64 0] from (k1.alloc _).drew)
  subst hW
  clear h b0 hsz k0 k1 E1 b1
  go_enter Try.func34, Try.ntmps34
  go_wp2_with fail
  go_region_law (refine step_app rfl (.tmp 27) (.tmp 31) rfl (w.heap.size + 1 + 1) (.slice (some ⟨w.heap.size + 1 + 1, 0, none⟩) 0 0) (.slice ao n cap) [] (l.take n) rfl rfl EO.out ET.out HL.out HS.out ?_; intro v3 w3 ho hg hk3; have r0 := (K0.out.grown hg (by simp [Value.ownBlock]; omega)); have r1 := (K1.out.grown hg (by simp [Value.ownBlock])); have c0 := r0.cell 0 _ rfl; have c1 := r0.cell 1 _ rfl; have d0 := r1.cell 0 _ rfl; have d1 := r1.cell 1 _ rfl; have g0 := r1.free 0; have g1 := r1.free 1; have R1 := Lib.hid r1; have O3 := Lib.hid ho; have G3 := Lib.hid (EB.out.grown hg EB.out.size (fun k hk => by have := (EO.out.from k hk).1; omega)); clear ho hg hk3 r0 r1)
  all_goals clear EO EB ET HS K0 K1
  all_goals generalize (Value.slice (if cap = n then ao else Option.map (fun x => x.add n) ao) (l.length - n) (cap - n)) = V at *
  all_goals go_wp2_with fail
  all_goals exact bodyPost_ret (results_mid2 rfl _ _ (w.heap.size + 1) [V, .int .i64 0] _ rfl (cell_final R1.out _ _) Try.underlying46 rfl infoRd) rfl ⟨V, v3, rfl, ED.out, (own_final O3.out (by omega) _ _).lower (by omega), below_final G3.out (by omega) _ _⟩
/-- The document's Take, for whatever reader of it. -/
theorem refTake_any (w : World) (sv : Value) (l : List Nat) (e n : Int) (h : Rd w sv l) (hl : e ≠ 0 → l = []) : Calls Try.prog 34 #[refv sv e, .int .i64 n] w fun ev w' => ∃ sv' v, ev = .returned (.tuple #[refv sv' (rpErr l e n), v]) ∧ (∀ W, Rd W sv l → Rd W sv' (rpLeft l e n)) ∧ Own w' w.heap.size v (rpGot l e n) ∧ Below w.heap.size w w' := by
  by_cases he : e = 0
  · subst he
    by_cases hk : lookP n l.length = 0
    · have hn : 0 ≤ n ∧ n ≤ l.length := by
        unfold lookP at hk
        split at hk
        · cases hk
        · split at hk
          · cases hk
          · omega
      obtain ⟨m, rfl⟩ : ∃ m : Nat, n = (m : Int) := ⟨n.toNat, by omega⟩
      unfold rpGot rpLeft rpErr
      rw [if_pos rfl, if_pos ⟨rfl, hk⟩, if_pos ⟨rfl, hk⟩, hk, Int.toNat_natCast]
      exact rtake_ok w sv l m h (by omega)
    · unfold rpGot rpLeft rpErr
      rw [if_pos rfl, if_neg (fun h => hk h.2), if_neg (fun h => hk h.2)]
      exact (rtake_bad w sv l n h hk).mono fun ev w' ⟨h1, h2⟩ => ⟨_, _, h1, fun W _ => Rd.none_ W, (own_nil w').lower h2.size, h2⟩
  · have := hl he
    subst this
    unfold rpGot rpLeft rpErr
    rw [if_neg he, if_neg (fun h => he h.1), if_neg (fun h => he h.1)]
    exact (rtake_old w sv [] e n h he).mono fun ev w' ⟨h1, h2⟩ => ⟨_, _, h1, fun _ hW => hW, (own_nil w').lower h2.size, h2⟩
end Go.Proofs.Ytngflmdlgaeokaa

/- Snapshots added one after another, in whatever order: the catalog is the same. On numbers. Own work. -/
import Derived.Test.YtkagapgganoomaaCtM
namespace Go.Proofs.Ytkagapgganoomaa
open Go.ChangeShapes Go.WideShapes Go.ChangeAt Go.RowKit
namespace CT
open RT
theorem rises_pair {l : List Sn} : rises l = true ↔ (∀ s ∈ l, isName s.name = true) ∧ l.Pairwise (fun a b => nlt a.name b.name = true) := by
  constructor
  · intro h
    refine ⟨fun s hs => ?_, ?_⟩
    · obtain ⟨j, hj, rfl⟩ := List.getElem_of_mem hs
      exact rises_name h hj
    · rw [List.pairwise_iff_getElem]
      intro i j hi hj hij
      exact rises_lt h hij hj
  · rintro ⟨h1, h2⟩
    rw [List.pairwise_iff_getElem] at h2
    exact rises_of h1 fun i hi => h2 i (i + 1) (by omega) hi (by omega)
theorem sorted_same : ∀ {l m : List Sn}, l.Pairwise (fun a b => nlt a.name b.name = true) → m.Pairwise (fun a b => nlt a.name b.name = true) → (∀ s, s ∈ l ↔ s ∈ m) → l = m
  | [], [], _, _, _ => rfl
  | [], b :: m, _, _, h => by have := (h b).2 (by simp); cases this
  | a :: l, [], _, _, h => by have := (h a).1 (by simp); cases this
  | a :: l, b :: m, hl, hm, h => by
    rw [List.pairwise_cons] at hl hm
    have e : a = b := by
      rcases List.mem_cons.1 ((h a).1 (by simp)) with q | q
      · exact q
      · rcases List.mem_cons.1 ((h b).2 (by simp)) with k | k
        · exact k.symm
        · have h1 := hm.1 a q
          have h2 := hl.1 b k
          rw [nlt_asymm h1] at h2; cases h2
    subst e
    congr 1
    refine sorted_same hl.2 hm.2 fun s => ⟨fun hs => ?_, fun hs => ?_⟩
    · rcases List.mem_cons.1 ((h s).1 (by simp [hs])) with q | q
      · subst q; have := hl.1 s hs; rw [nlt_irr] at this; cases this
      · exact q
    · rcases List.mem_cons.1 ((h s).2 (by simp [hs])) with q | q
      · subst q; have := hm.1 s hs; rw [nlt_irr] at this; cases this
      · exact q
theorem mem_added (c : Ct) (n : ByteArray) (s : Sn) : s ∈ added c n ↔ s ∈ c.snaps ∨ s = ⟨n, c.top⟩ := by
  unfold added
  constructor
  · intro h
    rcases List.mem_append.1 h with q | q
    · exact .inl (List.mem_of_mem_take q)
    · rcases List.mem_cons.1 q with q | q
      · exact .inr q
      · exact .inl (List.mem_of_mem_drop q)
  · rintro (h | rfl)
    · rw [← List.take_append_drop (spot c.snaps n) c.snaps] at h
      rcases List.mem_append.1 h with q | q
      · exact List.mem_append_left _ q
      · exact List.mem_append_right _ (List.mem_cons_of_mem _ q)
    · exact List.mem_append_right _ List.mem_cons_self
theorem added_len (c : Ct) (n : ByteArray) : (added c n).length = c.snaps.length + 1 := by
  unfold added
  simp only [List.length_append, List.length_take, List.length_cons, List.length_drop]
  have := spot_le c.snaps n
  omega
theorem added_rises {c : Ct} {n : ByteArray} (hr : rises c.snaps = true) (hn : isName n = true) (hno : ∀ s ∈ c.snaps, s.name ≠ n) : rises (added c n) = true := by
  rw [rises_pair] at hr ⊢
  refine ⟨fun s hs => ?_, ?_⟩
  · rcases (mem_added c n s).1 hs with q | rfl
    · exact hr.1 s q
    · exact hn
  · have hp := hr.2
    rw [← List.take_append_drop (spot c.snaps n) c.snaps, List.pairwise_append] at hp
    have hb : ∀ s ∈ c.snaps.take (spot c.snaps n), nlt s.name n = true := fun s hs => by
      obtain ⟨j, hj, rfl⟩ := List.getElem_of_mem hs
      rw [List.length_take] at hj
      rw [List.getElem_take]
      have h2 := List.not_of_lt_findIdx (p := fun s : Sn => nlt n s.name) (xs := c.snaps) (i := j) (by show j < spot c.snaps n; omega)
      rcases nlt_tri (c.snaps[j]'(by omega)).name n with q | q | q
      · exact q
      · exact absurd q (hno _ (List.getElem_mem _))
      · exact absurd q (by simpa using h2)
    have ha : ∀ s ∈ c.snaps.drop (spot c.snaps n), nlt n s.name = true := fun s hs => by
      obtain ⟨j, hj, rfl⟩ := List.getElem_of_mem hs
      rw [List.length_drop] at hj
      rw [List.getElem_drop]
      have hlt : spot c.snaps n < c.snaps.length := by omega
      have h1 : nlt n (c.snaps[spot c.snaps n]'hlt).name = true := List.findIdx_getElem (p := fun s : Sn => nlt n s.name) (xs := c.snaps) (w := hlt)
      cases j with
      | zero => exact h1
      | succ j => exact nlt_trans h1 ((List.pairwise_iff_getElem.1 hr.2) (spot c.snaps n) (spot c.snaps n + (j + 1)) hlt (by omega) (by omega))
    unfold added
    rw [List.pairwise_append, List.pairwise_cons]
    refine ⟨hp.1, ⟨fun s hs => ha s hs, hp.2.1⟩, fun s hs t ht => ?_⟩
    rcases List.mem_cons.1 ht with rfl | q
    · exact hb s hs
    · exact hp.2.2 s hs t q
/-- What is left behind a try to add a snapshot. -/
def step (c : Ct) (n : ByteArray) : Ct := if (snap c n).2 = 0 then (snap c n).1 else c
/-- A catalog of snapshots of one tree p, of the names M. -/
structure Of (p : Pg) (M : ByteArray → Prop) (k : Nat) (c : Ct) : Prop where
  ok : Ok c
  chk : check c = 0
  top : c.top = p
  few : c.snaps.length ≤ k
  mem : ∀ s, s ∈ c.snaps ↔ s.top = p ∧ isName s.name = true ∧ M s.name
theorem of_zero {p : Pg} (hp : Pok p) (hm : mayP p = true) : Of p (fun _ => False) 0 ⟨p, []⟩ :=
  ⟨⟨hp, fun s hs => by cases hs⟩, check_zero.2 ⟨by simp, rfl, tops_iff.2 ⟨hm, fun s hs => by cases hs⟩⟩, rfl, Nat.le_refl _, fun s => by simp⟩
theorem plc_mem {l : List Sn} {n : ByteArray} : 0 ≤ plc l n ↔ ∃ s ∈ l, s.name = n := by
  rcases plc_cases l n with ⟨h, h2⟩ | ⟨k, hk, h, h2⟩
  · rw [h]
    exact ⟨fun q => absurd q (by decide), fun ⟨s, hs, q⟩ => absurd q (h2 s hs)⟩
  · rw [h]
    exact ⟨fun _ => ⟨_, List.getElem_mem hk, h2⟩, fun _ => by omega⟩
theorem Of.step {p : Pg} {M : ByteArray → Prop} {k : Nat} {c : Ct} (h : Of p M k c) (n : ByteArray) (hk : k < 64) : Of p (fun x => M x ∨ x = n) (k + 1) (step c n) ∧ ((snap c n).2 = 0 ∨ (snap c n).2 = 44 ∨ (snap c n).2 = 23) := by
  have hs : snap c n = if isName n = false then (zero, 44) else if 0 ≤ plc c.snaps n then (zero, 23) else if c.snaps.length = 64 then (zero, 45) else (⟨c.top, added c n⟩, 0) := by
    unfold snap; rw [if_neg (by rw [h.chk]; decide)]
  unfold CT.step
  by_cases h1 : isName n = false
  · rw [if_pos h1] at hs
    rw [hs, if_neg (show ¬ ((44 : Int) = 0) by decide)]
    refine ⟨⟨h.ok, h.chk, h.top, by have := h.few; omega, fun s => ?_⟩, .inr (.inl rfl)⟩
    rw [h.mem s]
    constructor
    · rintro ⟨a, b, d⟩; exact ⟨a, b, .inl d⟩
    · rintro ⟨a, b, d | rfl⟩
      · exact ⟨a, b, d⟩
      · rw [h1] at b; cases b
  · rw [if_neg h1] at hs
    by_cases h2 : 0 ≤ plc c.snaps n
    · rw [if_pos h2] at hs
      rw [hs, if_neg (show ¬ ((23 : Int) = 0) by decide)]
      refine ⟨⟨h.ok, h.chk, h.top, by have := h.few; omega, fun s => ?_⟩, .inr (.inr rfl)⟩
      rw [h.mem s]
      constructor
      · rintro ⟨a, b, d⟩; exact ⟨a, b, .inl d⟩
      · rintro ⟨a, b, d | rfl⟩
        · exact ⟨a, b, d⟩
        · obtain ⟨t, ht, e⟩ := plc_mem.1 h2
          have := (h.mem t).1 ht
          rw [e] at this
          exact ⟨a, b, this.2.2⟩
    · rw [if_neg h2, if_neg (by have := h.few; omega)] at hs
      rw [hs, if_pos rfl]
      have hno : ∀ s ∈ c.snaps, s.name ≠ n := fun s hs e => h2 (plc_mem.2 ⟨s, hs, e⟩)
      obtain ⟨c1, c2, c3⟩ := check_zero.1 h.chk
      have h1' : isName n = true := by simpa using h1
      rw [tops_iff] at c3
      refine ⟨⟨⟨h.ok.top, fun s hs => ?_⟩, check_zero.2 ⟨?_, added_rises c2 h1' hno, tops_iff.2 ⟨c3.1, fun s hs => ?_⟩⟩, h.top, ?_, fun s => ?_⟩, .inl rfl⟩
      · rcases (mem_added c n s).1 hs with q | rfl
        · exact h.ok.snaps s q
        · exact h.ok.top
      · show (added c n).length ≤ 64; rw [added_len]; have := h.few; omega
      · rcases (mem_added c n s).1 hs with q | rfl
        · exact c3.2 s q
        · exact c3.1
      · show (added c n).length ≤ k + 1; rw [added_len]; have := h.few; omega
      · rw [mem_added, h.mem s]
        constructor
        · rintro (⟨a, b, d⟩ | rfl)
          · exact ⟨a, b, .inl d⟩
          · exact ⟨h.top, h1', .inr rfl⟩
        · rintro ⟨a, b, d | e⟩
          · exact .inl ⟨a, b, d⟩
          · refine .inr ?_
            cases s; simp only at a e; rw [a, e, h.top]
theorem Of.same {p : Pg} {M N : ByteArray → Prop} {k m : Nat} {c d : Ct} (h : Of p M k c) (g : Of p N m d) (hMN : ∀ x, M x ↔ N x) : c = d := by
  have h1 := (rises_pair.1 (check_zero.1 h.chk).2.1).2
  have h2 := (rises_pair.1 (check_zero.1 g.chk).2.1).2
  have e := sorted_same h1 h2 fun s => by rw [h.mem s, g.mem s, hMN]
  cases c; cases d
  have := h.top; have := g.top
  simp only at *
  subst e
  simp_all
theorem Of.to {p : Pg} {M N : ByteArray → Prop} {k : Nat} {c : Ct} (h : Of p M k c) (hMN : ∀ x, M x ↔ N x) : Of p N k c := ⟨h.ok, h.chk, h.top, h.few, fun s => by rw [h.mem s, hMN]⟩
def fold (p : Pg) (l : List ByteArray) (k : Nat) : Ct := (l.take k).foldl step ⟨p, []⟩
theorem fold_zero (p : Pg) (l : List ByteArray) : fold p l 0 = ⟨p, []⟩ := rfl
theorem fold_succ (p : Pg) (l : List ByteArray) {k : Nat} (h : k < l.length) : fold p l (k + 1) = step (fold p l k) l[k] := by
  unfold fold; rw [List.take_succ_eq_append_getElem h, List.foldl_append]; rfl
theorem fold_of {p : Pg} (hp : Pok p) (hm : mayP p = true) (l : List ByteArray) (hl : l.length ≤ 60) : ∀ k, k ≤ l.length → Of p (fun x => x ∈ l.take k) k (fold p l k)
  | 0, _ => (of_zero hp hm).to fun x => by simp
  | k + 1, h => by
    rw [fold_succ p l (by omega)]
    refine ((fold_of hp hm l hl k (by omega)).step l[k] (by omega)).1.to fun x => ?_
    rw [List.take_succ_eq_append_getElem (by omega : k < l.length), List.mem_append, List.mem_singleton]
theorem fold_err (p : Pg) (l : List ByteArray) {k : Nat} (h : k < l.length) : fold p l (k + 1) = if (snap (fold p l k) l[k]).2 = 0 then (snap (fold p l k) l[k]).1 else fold p l k := by
  rw [fold_succ p l h]; rfl
theorem fold_rev {p : Pg} (hp : Pok p) (hm : mayP p = true) (l : List ByteArray) (hl : l.length ≤ 60) : fold p l.reverse l.length = fold p l l.length := by
  have h1 := fold_of hp hm l hl l.length (Nat.le_refl _)
  have h2 := fold_of hp hm l.reverse (by rw [List.length_reverse]; exact hl) l.length (by rw [List.length_reverse]; exact Nat.le_refl _)
  refine h2.same h1 fun x => ?_
  rw [List.take_length, List.take_of_length_le (by rw [List.length_reverse]; exact Nat.le_refl _), List.mem_reverse]
theorem snap_ok {c : Ct} (h : Ok c) (n : ByteArray) : Ok (snap c n).1 := by
  unfold snap
  split
  · exact zero_ok
  · split
    · exact zero_ok
    · split
      · exact zero_ok
      · split
        · exact zero_ok
        · exact ⟨h.top, fun s hs => by
            rcases (mem_added c n s).1 hs with q | rfl
            · exact h.snaps s q
            · exact h.top⟩
end CT
end Go.Proofs.Ytkagapgganoomaa

/- What holds of every device on numbers goes on to hold. Own work. -/
import Derived.Test.YtipdcocliefppaaDevMath
namespace Go.Proofs.Ytipdcocliefppaa
namespace DM
theorem many_le (a n : Nat) : many a n ≤ n / 512 + 2 := by unfold many; split <;> omega
theorem Ok.new (m : Int) : Ok (new m) := ⟨by show (max 0 (min m 16777216)).toNat ≤ 16777216; omega, Nat.zero_le _, Nat.zero_le _, fun k => by show gb [] k < 256; rw [gb_nil]; omega, fun k => by show gb [] k < 256; rw [gb_nil]; omega, fun x hx => by cases (show x ∈ ([] : List LW) from hx)⟩
theorem gb_take (l : List Nat) (n k : Nat) (h : ∀ k, gb l k < 256) : gb (l.take n) k < 256 := by
  unfold gb; rw [List.getD_eq_getElem?_getD, List.getElem?_take]
  split
  · have := h k; unfold gb at this; rwa [List.getD_eq_getElem?_getD] at this
  · simp
theorem gb_drop (l : List Nat) (n k : Nat) (h : ∀ k, gb l k < 256) : gb (l.drop n) k < 256 := by
  unfold gb; rw [List.getD_eq_getElem?_getD, List.getElem?_drop]
  have := h (n + k); unfold gb at this; rwa [List.getD_eq_getElem?_getD] at this
theorem many_pos {a n j : Nat} (h : j < many a n) : 0 < n ∧ (a / 512 + j) * 512 < a + n := by
  unfold many at h
  by_cases hn : n = 0
  · rw [if_pos hn] at h; omega
  · rw [if_neg hn] at h; omega
theorem laid_to (s : List Nat) (a : Nat) (b : List Nat) (h : b.length ≠ 0) : a + b.length ≤ (laid s a b).length := by
  rw [laid_len s a b (fun e => h (by rw [e]; rfl))]; omega
theorem Ok.wrote {d : DS} (h : Ok d) (a : Nat) (b : List Nat) (hab : a + b.length ≤ d.most) (hb : ∀ k, gb b k < 256) : Ok (wrote d a b) := by
  have hl := laid_le d.seen a b d.most h.seen hab
  have hy := laid_byte d.seen a b h.bseen hb
  refine ⟨h.most, hl, h.safe, hy, h.bsafe, fun x hx => ?_⟩
  unfold DM.wrote at hx
  simp only [List.mem_append, List.mem_map, List.mem_range] at hx
  rcases hx with q | ⟨j, hj, rfl⟩
  · exact h.loose x q
  · obtain ⟨hn, hlt⟩ := many_pos hj
    have h2 := laid_to d.seen a b (by omega)
    refine ⟨fun k => gb_drop _ _ _ fun k => gb_take _ _ _ hy, ?_, ?_⟩
    · show (List.drop _ (List.take _ _)).length ≤ 512
      rw [List.length_drop, List.length_take]; omega
    · show (a / 512 + j) * 512 + (List.drop _ (List.take _ _)).length ≤ d.most
      rw [List.length_drop, List.length_take]; omega
theorem Ok.step {d x : DS} (h : Ok d) (k : Ok x) (_hm : x.most = d.most) : Ok (step d x).1 := by
  unfold DM.step
  split
  · exact ⟨k.most, k.seen, k.safe, k.bseen, k.bsafe, k.loose⟩
  · split
    · exact ⟨k.most, k.seen, k.safe, k.bseen, k.bsafe, k.loose⟩
    · show Ok { (if d.done then x else d) with steps := _, down := true, told := false }
      split
      · exact ⟨k.most, k.seen, k.safe, k.bseen, k.bsafe, k.loose⟩
      · exact ⟨h.most, h.seen, h.safe, h.bseen, h.bsafe, h.loose⟩
theorem Ok.write {d : DS} (h : Ok d) (a : Int) (b : List Nat) (hb : ∀ k, gb b k < 256) : Ok (write d a b).1 := by
  unfold DM.write
  split
  · exact h
  · split
    · exact h
    · split
      · exact h
      · exact h.step (h.wrote a.toNat b (by omega) hb) rfl
theorem Ok.sync {d : DS} (h : Ok d) : Ok (sync d).1 := by
  unfold DM.sync
  split
  · exact h
  · exact h.step ⟨h.most, h.seen, h.seen, h.bseen, h.bseen, fun x hx => by simp at hx⟩ rfl
theorem Ok.beat {d : DS} (h : Ok d) : Ok (beat d).1 := by
  unfold DM.beat
  split
  · exact h
  · exact h.step h rfl
theorem Ok.fail {d : DS} (h : Ok d) (a : Int) (x : Bool) : Ok (fail d a x).1 := by
  unfold DM.fail
  split
  · exact h
  · exact ⟨h.most, h.seen, h.safe, h.bseen, h.bsafe, h.loose⟩
theorem layTo_ok {d : DS} (h : Ok d) (k : List Nat) : ∀ n, (layTo k d.loose d.safe n).length ≤ d.most ∧ ∀ j, gb (layTo k d.loose d.safe n) j < 256
  | 0 => ⟨h.safe, h.bsafe⟩
  | n + 1 => by
    have ih := layTo_ok h k n
    unfold layTo
    split
    · rename_i x hx
      have hl := h.loose x (List.mem_of_getElem? hx)
      split
      · exact ⟨laid_le _ _ _ _ ih.1 hl.2.2, laid_byte _ _ _ ih.2 hl.1⟩
      · exact ih
    · exact ih
theorem Ok.start {d : DS} (h : Ok d) (k : List Nat) : Ok (start d k) :=
  ⟨h.most, (layTo_ok h k _).1, (layTo_ok h k _).1, (layTo_ok h k _).2, (layTo_ok h k _).2, fun x hx => by cases (show x ∈ ([] : List LW) from hx)⟩
theorem Ok.edit {d : DS} (h : Ok d) (a : Int) (b : List Nat) (hb : ∀ k, gb b k < 256) : Ok (edit d a b) := by
  unfold DM.edit
  split
  · exact h
  · have hab : a.toNat + b.length ≤ d.most := by omega
    exact ⟨h.most, laid_le _ _ _ _ h.seen hab, laid_le _ _ _ _ h.safe hab, laid_byte _ _ _ h.bseen hb, laid_byte _ _ _ h.bsafe hb, h.loose⟩
theorem Ok.load {d : DS} (h : Ok d) (b : List Nat) (hb : ∀ k, gb b k < 256) : Ok (load d b) := by
  unfold DM.load
  split
  · exact h
  · exact ⟨h.most, by show b.length ≤ d.most; omega, by show b.length ≤ d.most; omega, hb, hb, fun x hx => by simp at hx⟩
/-- How a step counts. -/
theorem step_steps (d x : DS) (h : x.steps = d.steps) : (step d x).1.steps = d.steps + 1 := by
  unfold DM.step
  split
  · show x.steps + 1 = _; rw [h]
  · split
    · show x.steps + 1 = _; rw [h]
    · rfl
theorem step_loose (d x : DS) (n : Nat) (h1 : d.loose.length ≤ n) (h2 : x.loose.length ≤ n) : (step d x).1.loose.length ≤ n := by
  unfold DM.step
  split
  · exact h2
  · split
    · exact h2
    · show ({ (if d.done then x else d) with steps := _, down := true, told := false } : DS).loose.length ≤ n
      split
      · exact h2
      · exact h1
theorem write_steps (d : DS) (a : Int) (b : List Nat) : (write d a b).1.steps ≤ d.steps + 1 := by
  unfold DM.write
  split
  · exact Nat.le_succ _
  · split
    · exact Nat.le_succ _
    · split
      · exact Nat.le_succ _
      · rw [step_steps d _ (by rfl)]; exact Nat.le_refl _
theorem write_loose (d : DS) (a : Int) (b : List Nat) : (write d a b).1.loose.length ≤ d.loose.length + (b.length / 512 + 2) := by
  unfold DM.write
  split
  · exact Nat.le_add_right _ _
  · split
    · exact Nat.le_add_right _ _
    · split
      · exact Nat.le_add_right _ _
      · refine step_loose d _ _ (Nat.le_add_right _ _) ?_
        show (d.loose ++ List.map _ _).length ≤ _
        rw [List.length_append, List.length_map, List.length_range]
        have := many_le a.toNat b.length
        omega
theorem sync_steps (d : DS) : (sync d).1.steps ≤ d.steps + 1 := by
  unfold DM.sync
  split
  · exact Nat.le_succ _
  · rw [step_steps d _ (by rfl)]; exact Nat.le_refl _
theorem sync_loose (d : DS) : (sync d).1.loose.length ≤ d.loose.length := by
  unfold DM.sync
  split
  · exact Nat.le_refl _
  · exact step_loose d _ _ (Nat.le_refl _) (Nat.zero_le _)
end DM
end Go.Proofs.Ytipdcocliefppaa

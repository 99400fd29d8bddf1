/- What was synced, and not written since, on numbers. Own work. -/
import Derived.Test.YtipdcocliefppaaDevWritten
namespace Go.Proofs.Ytipdcocliefppaa
namespace DM
/-- Behind a sync that left X: of the loose writes each touches a sector that f tells. -/
structure Safe (S : DS) (n : Nat) (X : List Nat) (f : Int → Bool) : Prop where
  plain : Plain S n
  safe : S.safe = X
  loose : ∀ x ∈ S.loose, ∃ c : Nat, x.at_ = c * 512 ∧ x.bytes.length ≤ 512 ∧ f (c : Int) = true
theorem Safe.sync {S : DS} {n : Nat} (h : Plain S n) (f : Int → Bool) : Safe (sync S).1 (n + 1) (sync S).1.seen f := by
  have hp := h.sync
  refine ⟨hp, ?_, ?_⟩
  · unfold DM.sync; rw [if_neg (by rw [h.down]; decide), step_plain _ _ h.told]
  · unfold DM.sync; rw [if_neg (by rw [h.down]; decide), step_plain _ _ h.told]
    intro x hx; cases hx
theorem Safe.mono {S : DS} {n : Nat} {X : List Nat} {f g : Int → Bool} (h : Safe S n X f) (hg : ∀ s, f s = true → g s = true) : Safe S n X g := ⟨h.plain, h.safe, fun x hx => by obtain ⟨c, h1, h2, h3⟩ := h.loose x hx; exact ⟨c, h1, h2, hg _ h3⟩⟩
theorem Safe.later {S : DS} {n : Nat} {X : List Nat} {f : Int → Bool} (h : Safe S n X f) : Safe S (n + 1) X f := ⟨⟨h.plain.ok, Nat.le_succ_of_le h.plain.steps, by have := h.plain.loose; omega, h.plain.after, h.plain.told, h.plain.down, h.plain.all, h.plain.less⟩, h.safe, h.loose⟩
/-- A write that isn't OK leaves all as it is. -/
theorem write_bad {S : DS} {n : Nat} (h : Plain S n) (a : Int) (b : List Nat) (hw : (write S a b).2 ≠ 0) : (write S a b).1 = S := by
  unfold write at hw ⊢
  rw [if_neg (by rw [h.down]; decide)] at hw ⊢
  by_cases c1 : a < 0 ∨ (S.seen.length : Int) < a
  · rw [if_pos c1]
  · rw [if_neg c1] at hw ⊢
    by_cases c2 : (S.most : Int) - a < (b.length : Int)
    · rw [if_pos c2]
    · rw [if_neg c2, step_plain _ _ h.told] at hw
      exact absurd rfl hw
/-- A write that is OK has its place in the file; what it makes loose touches the sectors from its place on. -/
theorem write_good {S : DS} {n : Nat} (h : Plain S n) (a : Int) (b : List Nat) (hw : (write S a b).2 = 0) : 0 ≤ a ∧ a ≤ 16777216 ∧ a + b.length ≤ 16777216 ∧ (write S a b).1.safe = S.safe ∧ (write S a b).1.loose = S.loose ++ (List.range (many a.toNat b.length)).map (sector (laid S.seen a.toNat b) a.toNat) := by
  have hm := h.ok.most
  have hs := h.ok.seen
  unfold write at hw ⊢
  rw [if_neg (by rw [h.down]; decide)] at hw ⊢
  by_cases c1 : a < 0 ∨ (S.seen.length : Int) < a
  · rw [if_pos c1] at hw; simp at hw
  · rw [if_neg c1] at hw ⊢
    by_cases c2 : (S.most : Int) - a < (b.length : Int)
    · rw [if_pos c2] at hw; simp at hw
    · rw [if_neg c2, step_plain _ _ h.told]
      exact ⟨by omega, by omega, by omega, rfl, rfl⟩
theorem Safe.write {S : DS} {n : Nat} {X : List Nat} {f g : Int → Bool} (h : Safe S n X f) (a : Int) (b : List Nat) (hb : ∀ k, gb b k < 256) (hl : b.length ≤ 20000) (hw : (write S a b).2 = 0) (hg : ∀ s, f s = true → g s = true) (ht : ∀ j : Nat, j < many a.toNat b.length → g ((a.toNat / 512 + j : Nat) : Int) = true) : Safe (write S a b).1 (n + 1) X g := by
  obtain ⟨_, _, _, hs, hlo⟩ := write_good h.plain a b hw
  refine ⟨h.plain.write a b hb hl, hs.trans h.safe, fun x hx => ?_⟩
  rw [hlo, List.mem_append, List.mem_map] at hx
  rcases hx with q | ⟨j, hj, rfl⟩
  · obtain ⟨c, h1, h2, h3⟩ := h.loose x q; exact ⟨c, h1, h2, hg _ h3⟩
  · refine ⟨a.toNat / 512 + j, rfl, ?_, ht j (by simpa using hj)⟩
    show (List.drop _ (List.take _ _)).length ≤ 512
    rw [List.length_drop, List.length_take]; omega
/-- Behind any Start what no write touched is as it was. -/
theorem Safe.start {S : DS} {n : Nat} {X : List Nat} {f : Int → Bool} (h : Safe S n X f) (k : List Nat) : X.length ≤ (start S k).seen.length ∧ ∀ i : Nat, f ((i / 512 : Nat) : Int) = false → gb (start S k).seen i = gb X i := by
  rw [← h.safe]
  refine ⟨layTo_ge _ _ _ _, fun i hi => layTo_apart k S.loose S.safe (fun c => f (c : Int) = true) (fun x hx => h.loose x hx) i (by rw [hi]; decide) _⟩
end DM
end Go.Proofs.Ytipdcocliefppaa

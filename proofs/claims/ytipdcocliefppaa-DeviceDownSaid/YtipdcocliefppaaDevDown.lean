/- The step that was told to goes down, on numbers. Own work. -/
import Derived.Test.YtipdcocliefppaaDevWritten
namespace Go.Proofs.Ytipdcocliefppaa
theorem str00 {w : World} {B : Nat} {y : Value} (h : Own w B y []) : ∃ ya yc, y = .slice ya 0 yc ∧ (convert 33 9 (.slice ya 0 yc)).run Try.prog w = .ok (.string ⟨#[]⟩) w := by
  obtain ⟨ya, yc, rfl, _⟩ := h.rd.shape
  exact ⟨ya, yc, rfl, h.rd.str⟩
namespace DM
/-- A device that is told to go down behind n steps, of which i were done. -/
def dd (n : Nat) (x : Bool) (i : Nat) : DS := { new 20000 with told := true, after := n - i, done := x, steps := i }
theorem dd_most (n : Nat) (x : Bool) (i : Nat) : (dd n x i).most = 20000 := by show (max 0 (min (20000 : Int) 16777216)).toNat = 20000; decide
theorem dd_fail (n : Nat) (x : Bool) : fail (new 20000) (n : Int) x = (dd n x 0, 0) := by
  unfold fail dd
  rw [if_neg (by decide), Int.toNat_natCast, Nat.sub_zero]
  rfl
theorem dd_beat (n : Nat) (x : Bool) (i : Nat) (h : i < n) : beat (dd n x i) = (dd n x (i + 1), 0) := by
  unfold beat
  rw [if_neg (by show ¬ (false = true); decide)]
  unfold step
  rw [if_neg (by show ¬ (true = false); decide), if_pos (show 0 < (dd n x i).after by show 0 < n - i; omega)]
  unfold dd
  simp only [Prod.mk.injEq, and_true]
  congr 1
theorem dd_tame (n : Nat) (x : Bool) (i : Nat) (hn : n ≤ 20) (hi : i ≤ n) : Tame (dd n x i) := by
  have ho := Ok.new 20000
  exact ⟨⟨ho.most, ho.seen, ho.safe, ho.bseen, ho.bsafe, ho.loose⟩, by show i ≤ _; omega, Nat.zero_le _, by show n - i ≤ _; omega⟩
/-- The device that went down. -/
def dn (n : Nat) (x : Bool) (b : List Nat) : DS := { (if x then wrote (dd n x n) 0 b else dd n x n) with steps := n + 1, down := true, told := false }
theorem dd_write (n : Nat) (x : Bool) (b : List Nat) (hb : b.length ≤ 10000) : write (dd n x n) 0 b = (dn n x b, 20) := by
  have hm : (dd n x n).most = 20000 := dd_most n x n
  unfold write
  rw [if_neg (by show ¬ (false = true); decide), if_neg (by rintro (h | h); omega; have : (((dd n x n).seen.length : Nat) : Int) = 0 := rfl; omega), if_neg (by rw [hm]; omega)]
  unfold step
  rw [if_neg (by show ¬ (true = false); decide), if_neg (show ¬ 0 < (dd n x n).after by show ¬ (0 < n - n); omega)]
  rfl
theorem dn_down (n : Nat) (x : Bool) (b : List Nat) : (dn n x b).down = true := rfl
theorem down_write (S : DS) (h : S.down = true) (a : Int) (b : List Nat) : write S a b = (S, 20) := by unfold write; rw [if_pos h]
theorem down_sync (S : DS) (h : S.down = true) : sync S = (S, 20) := by unfold sync; rw [if_pos h]
theorem down_beat (S : DS) (h : S.down = true) : beat S = (S, 20) := by unfold beat; rw [if_pos h]
theorem down_fail (S : DS) (h : S.down = true) (a : Int) (x : Bool) : fail S a x = (S, 20) := by unfold fail; rw [if_pos h]
theorem down_read (S : DS) (h : S.down = true) (a n : Int) : read S a n = ([], 20) := by unfold read; rw [if_pos h]
theorem dn_loose (n : Nat) (x : Bool) (b : List Nat) : (dn n x b).loose.length = if x then many 0 b.length else 0 := by
  cases x
  · rfl
  · show ([] ++ List.map _ _).length = _
    rw [List.nil_append, List.length_map, List.length_range]; rfl
theorem dn_tame (n : Nat) (x : Bool) (b : List Nat) (hn : n ≤ 20) (hb : b.length ≤ 10000) (hy : ∀ k, gb b k < 256) : Tame (dn n x b) := by
  have ho := (dd_tame n x n hn (Nat.le_refl _)).ok
  have hw := ho.wrote 0 b (by show 0 + b.length ≤ (dd n x n).most; rw [dd_most]; omega) hy
  have hl := dn_loose n x b
  have hm := many_le 0 b.length
  refine ⟨?_, by show n + 1 ≤ _; omega, by rw [hl]; split <;> omega, ?_⟩
  · cases x
    · exact ⟨ho.most, ho.seen, ho.safe, ho.bseen, ho.bsafe, ho.loose⟩
    · exact ⟨hw.most, hw.seen, hw.safe, hw.bseen, hw.bsafe, hw.loose⟩
  · cases x <;> (show n - n ≤ _; omega)
theorem laid_none (b : List Nat) : laid [] 0 b = b := by
  unfold laid
  split
  · rename_i h; rw [h]
  · simp
/-- What a Start that keeps all leaves. -/
theorem dn_start (n : Nat) (x : Bool) (b k : List Nat) (hk : ∀ i, i < (dn n x b).loose.length → bit k i = true) : (start (dn n x b) k).seen = if x then b else [] := by
  show layTo k (dn n x b).loose (dn n x b).safe (dn n x b).loose.length = _
  rw [layTo_all k _ _ hk _ (Nat.le_refl _), List.take_length]
  cases x
  · rfl
  · show fold ([] ++ (List.range (many 0 b.length)).map (sector (laid [] 0 b) 0)) [] = b
    rw [List.nil_append, sectors_fold [] 0 b (Nat.le_refl _), laid_none]
end DM
end Go.Proofs.Ytipdcocliefppaa

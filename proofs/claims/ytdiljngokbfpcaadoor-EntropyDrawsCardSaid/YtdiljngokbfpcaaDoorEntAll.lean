/- Whatever is drawn: what the program and the document tell, in one form each. Own work. -/
import Derived.Test.YtdiljngokbfpcaaDoorEntLaws
import Derived.Test.YtdiljngokbfpcaaDoorEntRef
namespace Go.Proofs.YtdiljngokbfpcaaDoor
open Go.ChangeShapes Go.WideShapes Go.ChangeAt Go.RowKit
namespace EM
/-- May n bytes be drawn? -/
def may (q : Int) : Bool := decide (0 ≤ q) && decide (q ≤ 1024)
/-- What is told of them, how many are taken behind it, and the error. -/
def got (S : List Nat) (t : Nat) (q : Int) : List Nat := if may q then drawn S t q.toNat else []
def left (t : Nat) (q : Int) : Nat := if may q then t + q.toNat else t
def fault (q : Int) : Int := if may q then 0 else 2
theorem left_le (t : Nat) (q : Int) : left t q ≤ t + 1024 := by
  unfold left may
  split
  · rename_i h; simp at h; omega
  · omega
theorem got_len (S : List Nat) (t : Nat) (q : Int) : (got S t q).length ≤ 1024 := by
  unfold got may
  split
  · rename_i h; simp at h; rw [drawn_len]; omega
  · simp
end EM
theorem pdraw_all (w : World) (x g : Nat) (S : List Nat) (t : Nat) (q : Int) (ht : t ≤ 1099511627776) (hf : S.length ≤ 140737488355328) (hs : Sc w x g S t) (hp : TabP w) :
    Calls Tryd.prog 8 #[.pointer (some ⟨x, 0, none⟩), .int .i64 q] w fun e w' =>
      ∃ ao cap, e = .returned (.tuple #[.slice ao (EM.got S t q).length cap, .int .i64 (EM.fault q)]) ∧ Own w' w.heap.size (.slice ao (EM.got S t q).length cap) (EM.got S t q) ∧ Sc w' x g S (EM.left t q) ∧ w.grownBy w' (some x) := by
  by_cases h : EM.may q = true
  · have h2 := h
    unfold EM.may at h2
    simp at h2
    obtain ⟨n, rfl⟩ : ∃ n : Nat, q = (n : Int) := ⟨q.toNat, by omega⟩
    have e1 : EM.got S t (n : Int) = EM.drawn S t n := by unfold EM.got; rw [if_pos h]; rfl
    have e2 : EM.left t (n : Int) = t + n := by unfold EM.left; rw [if_pos h]; rfl
    have e3 : EM.fault (n : Int) = 0 := by unfold EM.fault; rw [if_pos h]
    rw [e1, e2, e3]
    refine (pdraw_ok w x g S t n (by omega) ht hf hs hp).mono fun e w' ⟨y, he, ho, hs', hg⟩ => ?_
    obtain ⟨ao, cap, rfl, _⟩ := ho.rd.shape
    exact ⟨ao, cap, he, ho, hs', hg⟩
  · have e1 : EM.got S t q = [] := by unfold EM.got; rw [if_neg h]
    have e2 : EM.left t q = t := by unfold EM.left; rw [if_neg h]
    have e3 : EM.fault q = 2 := by unfold EM.fault; rw [if_neg h]
    rw [e1, e2, e3]
    refine (pdraw_bad w x q (by unfold EM.may at h; simp at h; omega)).mono fun e w' ⟨he, hb⟩ => ?_
    exact ⟨none, 0, he, ⟨World.ownsRow_nil _ _ _ _, fun k => by rw [gb_nil]; omega, by simp⟩, hs.below hb, grown_of_below hb _⟩
theorem rsdraw_all (S : List Nat) (hS : S.length ≤ 1000000) (T : Nat) (q : Int) (hT : T ≤ 1099511627776) (v : Value) (w : World) (hv : Rd w v S) (ht : Tab w) :
    Calls Tryd.prog 9 #[rsrc v T, .int .i64 q] w fun e w' => ∃ y, e = .returned (.tuple #[rsrc v (EM.left T q), y, .int .i64 (EM.fault q)]) ∧ Own w' w.heap.size y (EM.got S T q) ∧ Below w.heap.size w w' := by
  by_cases h : EM.may q = true
  · have h2 := h
    unfold EM.may at h2
    simp at h2
    obtain ⟨n, rfl⟩ : ∃ n : Nat, q = (n : Int) := ⟨q.toNat, by omega⟩
    have e1 : EM.got S T (n : Int) = EM.drawn S T n := by unfold EM.got; rw [if_pos h]; rfl
    have e2 : EM.left T (n : Int) = T + n := by unfold EM.left; rw [if_pos h]; rfl
    have e3 : EM.fault (n : Int) = 0 := by unfold EM.fault; rw [if_pos h]
    rw [e1, e2, e3]
    exact rsdraw_ok S hS T n (by omega) hT v w hv ht
  · have e1 : EM.got S T q = [] := by unfold EM.got; rw [if_neg h]
    have e2 : EM.left T q = T := by unfold EM.left; rw [if_neg h]
    have e3 : EM.fault q = 2 := by unfold EM.fault; rw [if_neg h]
    rw [e1, e2, e3]
    refine (rsdraw_bad S T q (by unfold EM.may at h; simp at h; omega) v w hv).mono fun e w' ⟨he, hb⟩ => ?_
    exact ⟨_, he, ⟨World.ownsRow_nil _ _ _ _, fun k => by rw [gb_nil]; omega, by simp⟩, hb⟩
end Go.Proofs.YtdiljngokbfpcaaDoor

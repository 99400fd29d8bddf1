/- Slices of bytes cut and kept: laws of no one function. Own work. -/
import Derived.Test.YtllhljhbnopafaaDoorOctMem
import Derived.BigQuiet
namespace Go.Proofs.YtllhljhbnopafaaDoor
open Go.RowKit
theorem Blk.grown {w w' : World} {g : Nat} {t : TypeId} {vs : List Value} (h : Blk w g t vs) {row : Option Nat} (hg : w.grownBy w' row) (hne : some g ≠ row) : Blk w' g t vs := (hg.block g h.lt hne).trans h
theorem only_trans {a b c : World} {row : Option Nat} (h : a.grownBy b row) (k : b.grownBy c row) : a.grownBy c row :=
  ⟨k.os.trans h.os, k.tape.trans h.tape, k.output.trans h.output, Nat.le_trans h.size k.size, fun i hi hne => (k.block i (Nat.lt_of_lt_of_le hi h.size) hne).trans (h.block i hi hne)⟩
theorem only_after {a b c : World} {row : Option Nat} (h : Below a.heap.size a b) (k : b.grownBy c row) : a.grownBy c row := only_trans (grown_of_below h row) k
theorem Rd.drewN {w : World} {v : Value} {l : List Nat} (h : Rd w v l) (n : Nat) : Rd (w.drewN n) v l := h.keep fun _ _ _ => rfl
theorem only_dN {a w : World} {row : Option Nat} (h : a.grownBy w row) (n : Nat) : a.grownBy (w.drewN n) row := ⟨h.os, h.tape, h.output, h.size, h.block⟩
theorem gb_take (l : List Nat) (k j : Nat) (hj : j < k) : gb (l.take k) j = gb l j := by
  unfold gb
  rw [List.getD_eq_getElem?_getD, List.getD_eq_getElem?_getD, List.getElem?_take, if_pos hj]
theorem gb_drop (l : List Nat) (k j : Nat) : gb (l.drop k) j = gb l (k + j) := by
  unfold gb
  rw [List.getD_eq_getElem?_getD, List.getD_eq_getElem?_getD, List.getElem?_drop]
theorem gb_take_byte (l : List Nat) (k : Nat) (h : ∀ j, gb l j < 256) (j : Nat) : gb (l.take k) j < 256 := by
  by_cases hj : j < k
  · rw [gb_take l k j hj]; exact h j
  · unfold gb; rw [List.getD_eq_getElem?_getD, List.getElem?_take, if_neg hj]; show 0 < 256; omega
theorem add_of_add (a : Addr) (i j : Nat) : (a.add i).add j = a.add (i + j) := Addr.add_add a i j
/-- The first k bytes of a slice. -/
theorem Rd.take {w : World} {ao : Option Addr} {n cap : Nat} {l : List Nat} (h : Rd w (.slice ao n cap) l) (k : Nat) (hk : k ≤ l.length) : Rd w (.slice ao k cap) (l.take k) := by
  have e1 : (l.take k).length = k := by rw [List.length_take]; omega
  refine ⟨gb_take_byte l k h.byte, by rw [e1]; have := h.fits; omega, ?_⟩
  rcases h.form with ⟨e, q⟩ | ⟨ad, cap', e, hc, hs⟩
  · subst q
    injection e with e2 e3 e4
    subst e2; subst e4
    obtain rfl : k = 0 := by simpa using hk
    exact .inl ⟨rfl, rfl⟩
  · injection e with e2 e3 e4
    subst e2; subst e4
    refine .inr ⟨ad, cap, by rw [e1], by rw [e1]; omega, fun j hj => ?_⟩
    rw [gb_take l k j (by omega)]
    exact hs j (by omega)
/-- What stands behind the first k bytes. -/
theorem Rd.drop {w : World} {ao : Option Addr} {n cap : Nat} {l : List Nat} (h : Rd w (.slice ao n cap) l) (k : Nat) (hk : k ≤ l.length) : Rd w (.slice (if cap = k then ao else ao.map (·.add k)) (l.length - k) (cap - k)) (l.drop k) := by
  have e1 : (l.drop k).length = l.length - k := List.length_drop
  refine ⟨fun j => by rw [gb_drop]; exact h.byte _, by rw [e1]; have := h.fits; omega, ?_⟩
  rcases h.form with ⟨e, q⟩ | ⟨ad, cap', e, hc, hs⟩
  · subst q
    injection e with e2 e3 e4
    subst e2; subst e4
    obtain rfl : k = 0 := by simpa using hk
    exact .inl ⟨by simp, rfl⟩
  · injection e with e2 e3 e4
    subst e2; subst e4
    by_cases hq : cap = k
    · refine .inr ⟨ad, cap - k, by rw [if_pos hq, e1], by rw [e1]; omega, fun j hj => absurd hj (by omega)⟩
    · refine .inr ⟨ad.add k, cap - k, by rw [if_neg hq, e1]; rfl, by rw [e1]; omega, fun j hj => ?_⟩
      rw [add_of_add, gb_drop]
      exact hs (k + j) (by omega)
theorem owner_len {ao : Option Addr} {n m c d : Nat} : (Value.slice ao n c).ownBlock = (Value.slice ao m d).ownBlock := by cases ao <;> rfl
theorem owner_cut {ao : Option Addr} {n cap k n' c' rb : Nat} (h : (Value.slice ao n cap).ownBlock ≠ some rb) : (Value.slice (if cap = k then ao else ao.map (·.add k)) n' c').ownBlock ≠ some rb := by
  cases ao with
  | none => split <;> simp [Value.ownBlock]
  | some a =>
    split
    · exact h
    · show some (a.add k).block ≠ some rb
      rw [add_block]; exact h
theorem below_dN {B : Nat} {a w : World} (h : Below B a w) (n : Nat) : Below B a (w.drewN n) := ⟨h.os, h.tape, h.output, h.size, h.block⟩
/-- Of the old blocks the one alone has turned. -/
theorem only_set {a w : World} {g : Nat} (h : a.grownBy w (some g)) {p : Addr} (hp : p.block = g ∨ a.heap.size ≤ p.block) (u : Value) : a.grownBy (w.setCell p u) (some g) := by
  refine ⟨h.os, h.tape, h.output, by simpa [World.setCell] using h.size, fun i hi hne => ?_⟩
  rw [Below.heap_setCell w p u i (fun e => by
    rcases hp with q | q
    · exact hne (by rw [← q, ← e])
    · omega)]
  exact h.block i hi hne
theorem Rd.at_ {w : World} {ao : Option Addr} {n cap : Nat} {l : List Nat} (h : Rd w (.slice ao n cap) l) (j : Nat) (hj : j < l.length) : ∃ ad, ao = some ad ∧ w.cell? (ad.add j) = some (.int .u8 ((gb l j : Nat) : Int)) := by
  rcases h.form with ⟨_, q⟩ | ⟨ad, cap', e, _, hs⟩
  · subst q; simp at hj
  · injection e with e2 e3 e4
    exact ⟨ad, e2, hs j hj⟩
theorem own_blk {w : World} {base g n : Nat} {l : List Nat} (h : w.ownsRow base 5 1 (.slice (some ⟨g, 0, none⟩) n n) n (row8 l)) : Blk w g 5 (row8 l) := by
  rcases h.2 with ⟨e, _⟩ | ⟨g', cap, cur, e, _, hh, _, _, hs, ht⟩
  · cases e
  · injection e with e1 e2 e3
    injection e1 with e1
    injection e1 with e1
    subst e1; subst e3
    unfold Blk
    rw [hh, ← ht]
    congr 2
    apply Array.toList_inj.1
    exact (List.take_of_length_le (by rw [Array.length_toList, hs]; exact Nat.le_refl _)).symm
theorem blk_own {w : World} {base g : Nat} {l : List Nat} (h : Blk w g 5 (row8 l)) (hb : base ≤ g) (hl : ∀ k, gb l k < 256) (hf : l.length ≤ 140737488351232) : Own w base (.slice (some ⟨g, 0, none⟩) l.length l.length) l := by
  refine ⟨⟨by rw [row8_len, Nat.mul_one], .inr ⟨g, _, _, rfl, hb, h, Nat.le_refl _, by unfold maxLen; omega, ?_, ?_⟩⟩, hl, hf⟩
  · simp [row8_len]
  · simp [← row8_len l]
theorem infoSize : (Tryd.prog.info? 5).map (·.size) = some 1 := by kernel_rfl
def vlen : Value → Nat | .slice _ n _ => n | _ => 0
theorem Own.vlen {w : World} {base : Nat} {v : Value} {l : List Nat} (h : Own w base v l) : vlen v = l.length := by
  obtain ⟨ao, cap, rfl, _⟩ := h.rd.shape
  rfl
end Go.Proofs.YtllhljhbnopafaaDoor

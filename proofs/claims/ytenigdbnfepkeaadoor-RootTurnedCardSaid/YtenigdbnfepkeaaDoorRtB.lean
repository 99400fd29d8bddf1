/- Texts of one subject in one file: RtBackM, RtKnown. Own work. -/
import Derived.Test.YtenigdbnfepkeaaDoorRtDocB
import Derived.Test.YtenigdbnfepkeaaDoorBackMath
import Derived.Test.YtenigdbnfepkeaaDoorRtM
/- A root that is laid is read as it was: numbers. Own work. -/
namespace Go.Proofs.YtenigdbnfepkeaaDoor
open Go.ChangeShapes Go.WideShapes Go.ChangeAt Go.RowKit
namespace RT
theorem drop_at (A B : List Nat) (n m : Nat) (h : n = A.length + m) : (A ++ B).drop n = B.drop m := by
  subst h; rw [← List.drop_drop, List.drop_left]
theorem lay_app (r : Rt) (key : List Nat) : ∃ Z, lay r key = [82, 79, 79, 84] ++ (be r.ver 8 ++ (r.sup ++ ([r.area.toNat] ++ (r.keys ++ (be r.len.toNat 2 ++ ([r.pages.length] ++ (ones r.pages ++ Z))))))) :=
  ⟨List.replicate (480 - (raw r).length) 0 ++ SM.mac key (body r), by
    unfold lay
    conv => lhs; arg 1; unfold body padTo raw pre
    unfold raw pre
    simp only [List.append_assoc]⟩
theorem ones_drop : ∀ (ps : List Pg), (∀ p ∈ ps, Pok p) → ∀ (Z : List Nat) (i : Nat) (hi : i < ps.length), ∃ Y, (ones ps ++ Z).drop (i * 36) = be ps[i].at_ 4 ++ (ps[i].sum ++ Y) := by
  intro ps
  induction ps with
  | nil => intro _ Z i hi; simp at hi
  | cons a r ih =>
    intro h Z i hi
    have e : ones (a :: r) ++ Z = one a ++ (ones r ++ Z) := by unfold ones; rw [List.map_cons, List.flatten_cons, List.append_assoc]
    rw [e]
    cases i with
    | zero => exact ⟨ones r ++ Z, by rw [Nat.zero_mul, List.drop_zero]; unfold one; rw [List.append_assoc]; rfl⟩
    | succ i =>
      obtain ⟨Y, hY⟩ := ih (fun p hp => h p (by simp [hp])) Z i (by simpa using hi)
      refine ⟨Y, ?_⟩
      rw [drop_at (one a) (ones r ++ Z) _ (i * 36) (by rw [one_len (h a (by simp))]; omega)]
      exact hY
theorem reads_lay {r : Rt} (h : Ok r) (hm : may r = true) (key : List Nat) : reads (lay r key) = r := by
  obtain ⟨m1, m2, m3, m4, _⟩ := may_iff.1 hm
  obtain ⟨Z, hZ⟩ := lay_app r key
  obtain ⟨B, hB⟩ : ∃ B, B = lay r key := ⟨_, rfl⟩
  rw [← hB] at hZ ⊢
  have l8 : (be r.ver 8).length = 8 := be_len _ _
  have l2 : (be r.len.toNat 2).length = 2 := be_len _ _
  have e4 := congrArg (List.drop 4) hZ
  rw [List.drop_left' (show ([82, 79, 79, 84] : List Nat).length = 4 from rfl)] at e4
  have e12 := congrArg (List.drop 8) e4
  rw [List.drop_drop, List.drop_left' l8] at e12
  simp only [Nat.reduceAdd] at e12
  have e44 := congrArg (List.drop 32) e12
  rw [List.drop_drop, List.drop_left' h.sup.1] at e44
  simp only [Nat.reduceAdd] at e44
  have e45 := congrArg (List.drop 1) e44
  rw [List.drop_drop, List.drop_left' (show [r.area.toNat].length = 1 from rfl)] at e45
  simp only [Nat.reduceAdd] at e45
  have e77 := congrArg (List.drop 32) e45
  rw [List.drop_drop, List.drop_left' h.keys.1] at e77
  simp only [Nat.reduceAdd] at e77
  have e79 := congrArg (List.drop 2) e77
  rw [List.drop_drop, List.drop_left' l2] at e79
  simp only [Nat.reduceAdd] at e79
  have e80 := congrArg (List.drop 1) e79
  rw [List.drop_drop, List.drop_left' (show [r.pages.length].length = 1 from rfl)] at e80
  simp only [Nat.reduceAdd] at e80
  have g44 : gb B 44 = r.area.toNat := by have q := gb_drop B 44 0; rw [e44] at q; rw [Nat.add_zero] at q; rw [← q]; rfl
  have g79 : gb B 79 = r.pages.length := by have q := gb_drop B 79 0; rw [e79] at q; rw [Nat.add_zero] at q; rw [← q]; rfl
  have f1 : num ((B.drop 4).take 8) = r.ver := by rw [e4, List.take_left' l8]; exact num_be 8 _ h.ver (by decide)
  have f2 : (B.drop 12).take 32 = r.sup := by rw [e12, List.take_left' h.sup.1]
  have f4 : (B.drop 45).take 32 = r.keys := by rw [e45, List.take_left' h.keys.1]
  have f5 : num ((B.drop 77).take 2) = r.len.toNat := by rw [e77, List.take_left' l2]; exact num_be 2 _ (by omega) (by decide)
  have f6 : (List.range (min (gb B 79) 9)).map (pgAt B) = r.pages := by
    rw [g79, Nat.min_eq_left (by omega)]
    apply List.ext_getElem (by simp)
    intro i h1 h2
    rw [List.getElem_map, List.getElem_range]
    obtain ⟨Y, hY⟩ := ones_drop r.pages h.pages Z i h2
    have p1 : B.drop (80 + i * 36) = be r.pages[i].at_ 4 ++ (r.pages[i].sum ++ Y) := by rw [← List.drop_drop, e80]; exact hY
    have p2 : B.drop (84 + i * 36) = r.pages[i].sum ++ Y := by
      rw [show 84 + i * 36 = (80 + i * 36) + 4 by omega, ← List.drop_drop, p1]
      have q := drop_at (be r.pages[i].at_ 4) (r.pages[i].sum ++ Y) 4 0 (by rw [be_len])
      rw [List.drop_zero] at q; exact q
    have hp := h.pages _ (List.getElem_mem h2)
    unfold pgAt
    rw [p1, p2, List.take_left' (be_len _ _), List.take_left' hp.2.1, num_be 4 _ hp.1 (by decide)]
  unfold reads
  rw [f1, f2, g44, f4, f5, f6, Int.toNat_of_nonneg (by omega), Int.toNat_of_nonneg m2]
theorem lay_bytes {r : Rt} (h : Ok r) (hm : may r = true) (key : List Nat) : Bytes 512 (lay r key) := ⟨lay_len h (may_iff.1 hm).2.2.2.1 key, fun k => lay_byte h hm key k⟩
theorem lay_take {r : Rt} (h : Ok r) (hm : may r = true) (key : List Nat) : (lay r key).take 480 = body r := by unfold lay; exact List.take_left' (body_len h (may_iff.1 hm).2.2.2.1)
theorem lay_drop {r : Rt} (h : Ok r) (hm : may r = true) (key : List Nat) : (lay r key).drop 480 = SM.mac key (body r) := by unfold lay; exact List.drop_left' (body_len h (may_iff.1 hm).2.2.2.1)
theorem lay_sealed {r : Rt} (h : Ok r) (hm : may r = true) (key other : List Nat) : sealed (lay r key) other = decide (SM.mac other (body r) = SM.mac key (body r)) := by unfold sealed; rw [lay_take h hm, lay_drop h hm]
/-- A root that is laid is read as it was. -/
theorem got_lay {r : Rt} (h : Ok r) (hm : may r = true) (key : List Nat) : got (lay r key) key = r ∧ gerr (lay r key) key = 0 := by
  have q := got_yes (key := key) (lay_bytes h hm key).1 (by rw [lay_sealed h hm]; simp) (by rw [reads_lay h hm]; exact hm) (by rw [reads_lay h hm])
  rw [reads_lay h hm] at q
  exact q
/-- With another key it is none, unless both make the same sum. -/
theorem got_other {r : Rt} (h : Ok r) (hm : may r = true) {key other : List Nat} (hn : SM.mac other (body r) ≠ SM.mac key (body r)) : got (lay r key) other = zero ∧ gerr (lay r key) other = 40 :=
  got_open (lay_bytes h hm key).1 (by rw [lay_sealed h hm, decide_eq_false hn])
end RT
end Go.Proofs.YtenigdbnfepkeaaDoor
/- The root of root's closed case, reckoned: what one key seals another one does not open. Own work. -/
namespace Go.Proofs.YtenigdbnfepkeaaDoor
namespace RT
def aRt : Rt := { zero with ver := 3 }
def aKy (n : Nat) : List Nat := n :: List.replicate 31 0
set_option maxRecDepth 100000 in
theorem a_apart : SM.mac (aKy 2) (body aRt) ≠ SM.mac (aKy 1) (body aRt) := by decide +kernel
theorem a_head : (body aRt).take 5 = [82, 79, 79, 84, 0] := by decide +kernel
end RT
end Go.Proofs.YtenigdbnfepkeaaDoor

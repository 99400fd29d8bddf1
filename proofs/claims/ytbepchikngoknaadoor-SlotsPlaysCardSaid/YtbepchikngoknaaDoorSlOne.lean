/- A table in which one slot is used, on numbers: who opens it. Own work. -/
import Derived.Test.YtbepchikngoknaaDoorSlKnown
import Derived.Test.YtbepchikngoknaaDoorSlN
namespace Go.Proofs.YtbepchikngoknaaDoor
open SM WM SL
namespace SL
def single (s : Slot) : List Slot := zero.set 0 s
theorem single_ok {s : Slot} (h : Sok s) : Tok (single s) := zero_ok.set 0 h
theorem single_at (s : Slot) : at_ (single s) 0 = s := rfl
theorem single_other (s : Slot) (j : Nat) (h : 0 < j) (hj : j < 8) : at_ (single s) j = none_ := by
  unfold single at_ zero
  rw [List.getD_eq_getElem?_getD, List.getElem?_set_ne (by omega), List.getElem?_replicate, if_pos hj]; rfl
theorem zero_at (j : Nat) (hj : j < 8) : at_ zero j = none_ := by
  unfold at_ zero
  rw [List.getD_eq_getElem?_getD, List.getElem?_replicate, if_pos hj]; rfl
theorem zero_free : free zero = some 0 := free_some (T := zero) (i := 0) (by decide) rfl (fun j hj => absurd hj (Nat.not_lt_zero j))
theorem single_used {s : Slot} (h : s.used = true) : used (single s) = 1 := by
  unfold used single zero
  simp [List.replicate, h, none_]
theorem zero_opens (p : List Nat) (hp : p.length ≤ 512) : oerr zero p = 30 := (o_none zero_ok hp fun j hj => by rw [zero_at j hj]; exact opensAt_no (.inl rfl)).1
theorem zero_comes {p : List Nat} {t : Int} (hp : p.length ≤ 512) (h1 : 1 ≤ t) (h2 : t ≤ 4096) : comes zero p t = 0 := by
  unfold comes
  rw [if_neg (by omega), if_neg (by omega), zero_opens p hp, if_neg (by decide)]
theorem zero_add {p salt m : List Nat} {t : Nat} (hp : p.length ≤ 512) (h1 : 1 ≤ t) (h2 : t ≤ 4096) : aerr zero p (t : Int) = 0 ∧ add zero p salt (t : Int) m = single (made p salt t m) := by
  have e : aerr zero p (t : Int) = 0 := by unfold aerr; rw [zero_comes hp (by omega) (by omega), if_pos rfl, zero_free]; rfl
  refine ⟨e, ?_⟩
  unfold add
  rw [if_pos e, zero_free]; rfl
theorem made_may {p salt m : List Nat} {t : Nat} (h1 : 1 ≤ t) (h2 : t ≤ 4096) : may (made p salt t m) = true := by
  rw [may_used rfl]; exact decide_eq_true ⟨h1, h2⟩
theorem made_opens (p salt m : List Nat) (t : Nat) (h1 : 1 ≤ t) (h2 : t ≤ 4096) : opensAt p (made p salt t m) = true := by
  rw [opensAt_eq rfl (made_may h1 h2)]
  refine decide_eq_true ?_
  unfold werr made; rw [if_pos rfl]
/-- Who made the one slot opens it, and has what was sealed. -/
theorem single_opens {p salt m : List Nat} {t : Nat} (hp : p.length ≤ 512) (hs : Bytes 16 salt) (hm : Bytes 32 m) (h1 : 1 ≤ t) (h2 : t ≤ 4096) : oerr (single (made p salt t m)) p = 0 ∧ oidx (single (made p salt t m)) p = 0 ∧ okey (single (made p salt t m)) p = m := by
  obtain ⟨a, b, c⟩ := o_some (single_ok (made_ok p (t := t) (by omega) hs hm)) hp (i := 0) (by decide) (by rw [single_at]; exact made_opens p salt m t h1 h2) (fun j hj => absurd hj (Nat.not_lt_zero j))
  refine ⟨a, b, ?_⟩
  rw [c, single_at]
  show wopen (key p salt t) (wseal (key p salt t) m) (wcheck (key p salt t) (wseal (key p salt t) m)) = m
  unfold wopen
  rw [if_pos rfl, wseal_back _ hm]
/-- Who makes another check does not. -/
theorem single_shut {p q salt m : List Nat} {t : Nat} (hq : q.length ≤ 512) (hs : Bytes 16 salt) (hm : Bytes 32 m) (h1 : 1 ≤ t) (h2 : t ≤ 4096) (h : wcheck (key q salt t) (wseal (key p salt t) m) ≠ wcheck (key p salt t) (wseal (key p salt t) m)) : oerr (single (made p salt t m)) q = 30 := by
  refine (o_none (single_ok (made_ok p (t := t) (by omega) hs hm)) hq fun j hj => ?_).1
  by_cases h0 : j = 0
  · subst h0
    rw [single_at, opensAt_eq rfl (made_may h1 h2)]
    refine decide_eq_false ?_
    unfold werr made
    rw [if_neg h]; decide
  · rw [single_other _ j (by omega) hj]; exact opensAt_no (.inl rfl)
theorem aSalt_bytes : Bytes 16 aSalt := ⟨rfl, small_bytes (by decide)⟩
theorem aKey_bytes : Bytes 32 aKey := ⟨rfl, small_bytes (by decide)⟩
end SL
end Go.Proofs.YtbepchikngoknaaDoor

/- What writes and syncs alone leave, on numbers. Own work. -/
import Derived.Test.YtipdcocliefppaaDevOk
import Derived.Test.YtipdcocliefppaaDevFew
namespace Go.Proofs.Ytipdcocliefppaa
namespace DM
def fillC (c n k : Nat) : List Nat := List.replicate k c ++ List.replicate (n - k) 0
theorem fillC_len (c n k : Nat) (h : k ≤ n) : (fillC c n k).length = n := by unfold fillC; rw [List.length_append, List.length_replicate, List.length_replicate]; omega
theorem fillC_set (c n k : Nat) (h : k < n) : (fillC c n k).set k c = fillC c n (k + 1) := by
  unfold fillC
  rw [List.set_append_right _ _ (by simp), List.length_replicate, Nat.sub_self, show n - k = (n - (k + 1)) + 1 by omega, List.replicate_succ, List.set_cons_zero, List.replicate_succ', List.append_assoc]
  rfl
theorem fillC_zero (c n : Nat) : fillC c n 0 = List.replicate n 0 := by unfold fillC; simp
theorem fillC_all (c n : Nat) : fillC c n n = List.replicate n c := by unfold fillC; simp
/-- All loose writes laid, one after the other. -/
def fold (l : List LW) (s : List Nat) : List Nat := l.foldl (fun s x => laid s x.at_ x.bytes) s
theorem fold_app (l m : List LW) (s : List Nat) : fold (l ++ m) s = fold m (fold l s) := List.foldl_append
theorem gb_ext {l m : List Nat} (hl : l.length = m.length) (h : ∀ k, k < l.length → gb l k = gb m k) : l = m := by
  apply List.ext_getElem hl
  intro i h1 h2
  have := h i h1
  unfold gb at this
  rw [List.getD_eq_getElem?_getD, List.getD_eq_getElem?_getD, List.getElem?_eq_getElem h1, List.getElem?_eq_getElem h2] at this
  exact this
theorem sector_len (X : List Nat) (a j : Nat) (h : (a / 512 + j) * 512 < X.length) : (sector X a j).bytes.length = min ((a / 512 + j) * 512 + 512) X.length - (a / 512 + j) * 512 := by
  show (List.drop _ (List.take _ _)).length = _
  rw [List.length_drop, List.length_take]; omega
theorem sector_get (X : List Nat) (a j k : Nat) (h : k < min ((a / 512 + j) * 512 + 512) X.length - (a / 512 + j) * 512) : gb (sector X a j).bytes k = gb X ((a / 512 + j) * 512 + k) := by
  show gb (List.drop _ (List.take _ _)) k = _
  unfold gb
  rw [List.getD_eq_getElem?_getD, List.getD_eq_getElem?_getD, List.getElem?_drop, List.getElem?_take, if_pos (by omega)]
set_option maxRecDepth 100000 in
theorem sectors_to (s X : List Nat) (a n : Nat) (hle : s.length ≤ X.length) (hX : n ≠ 0 → a + n ≤ X.length) (ha : a ≤ s.length) (hlow : ∀ k, k < a → gb X k = gb s k) :
    ∀ j, j ≤ many a n → (fold ((List.range j).map (sector X a)) s).length = max s.length (min ((a / 512 + j) * 512) X.length) ∧ ∀ k, gb (fold ((List.range j).map (sector X a)) s) k = if k < min ((a / 512 + j) * 512) X.length then gb X k else gb s k
  | 0, _ => by
    refine ⟨?_, fun k => ?_⟩
    · show s.length = _; omega
    · show gb s k = _
      split
      · rw [hlow k (by omega)]
      · rfl
  | j + 1, hj => by
    obtain ⟨ih1, ih2⟩ := sectors_to s X a n hle hX ha hlow j (by omega)
    obtain ⟨hn, hlt⟩ := many_pos (show j < many a n by omega)
    have hx := hX (by omega)
    have hsl := sector_len X a j (by omega)
    rw [List.range_succ, List.map_append, fold_app]
    show (laid (fold _ s) ((a / 512 + j) * 512) (sector X a j).bytes).length = _ ∧ ∀ k, gb (laid (fold _ s) ((a / 512 + j) * 512) (sector X a j).bytes) k = _
    have hne : (sector X a j).bytes ≠ [] := fun e => by rw [e] at hsl; simp at hsl; omega
    refine ⟨?_, fun k => ?_⟩
    · rw [laid_len _ _ _ hne, ih1, hsl]; omega
    · rw [laid_get, ih2 k, hsl]
      by_cases c : (a / 512 + j) * 512 ≤ k ∧ k < (a / 512 + j) * 512 + (min ((a / 512 + j) * 512 + 512) X.length - (a / 512 + j) * 512)
      · rw [if_pos ⟨hne, c.1, c.2⟩, sector_get X a j _ (by omega), if_pos (show k < min ((a / 512 + (j + 1)) * 512) X.length by omega)]
        congr 1; omega
      · rw [if_neg (fun q => c ⟨q.2.1, q.2.2⟩)]
        by_cases d : k < min ((a / 512 + j) * 512) X.length
        · have d2 : k < min ((a / 512 + (j + 1)) * 512) X.length := by omega
          rw [if_pos d, if_pos d2]
        · have d2 : ¬ k < min ((a / 512 + (j + 1)) * 512) X.length := by omega
          rw [if_neg d, if_neg d2]
/-- The sectors of a write, laid into what was seen ahead of it, are what is seen behind it. -/
theorem sectors_fold (s : List Nat) (a : Nat) (b : List Nat) (ha : a ≤ s.length) : fold ((List.range (many a b.length)).map (sector (laid s a b) a)) s = laid s a b := by
  by_cases hb : b.length = 0
  · have : many a b.length = 0 := by unfold many; rw [if_pos hb]
    rw [this, List.length_eq_zero_iff.1 hb, laid_nil]; rfl
  · have hne : b ≠ [] := fun e => hb (by rw [e]; rfl)
    have hlen := laid_len s a b hne
    obtain ⟨h1, h2⟩ := sectors_to s (laid s a b) a b.length (laid_ge s a b) (fun _ => laid_to s a b hb) ha (fun k hk => by rw [laid_get, if_neg (by omega)]) (many a b.length) (Nat.le_refl _)
    have hm : a + b.length ≤ (a / 512 + many a b.length) * 512 := by unfold many; rw [if_neg hb]; omega
    refine gb_ext (by rw [h1, hlen]; omega) fun k _ => ?_
    rw [h2 k]
    split
    · rfl
    · rw [laid_get, if_neg (by omega)]
theorem step_plain (d x : DS) (h : d.told = false) : step d x = ({ x with steps := x.steps + 1 }, 0) := by unfold DM.step; rw [if_pos h]
/-- A device behind writes and syncs alone. -/
structure Plain (S : DS) (n : Nat) : Prop where
  ok : Ok S
  steps : S.steps ≤ n
  loose : S.loose.length ≤ 41 * n
  after : S.after ≤ 9223372036854775807
  told : S.told = false
  down : S.down = false
  all : fold S.loose S.safe = S.seen
  less : S.safe.length ≤ S.seen.length
theorem fold_ge : ∀ (l : List LW) (s : List Nat), s.length ≤ (fold l s).length
  | [], _ => Nat.le_refl _
  | x :: r, s => Nat.le_trans (laid_ge s x.at_ x.bytes) (fold_ge r _)
theorem Plain.new (n : Int) (k : Nat) : Plain (new n) k := ⟨Ok.new n, Nat.zero_le _, Nat.zero_le _, by show 0 ≤ _; omega, rfl, rfl, rfl, Nat.le_refl _⟩
theorem Plain.tame {S : DS} {n : Nat} (h : Plain S n) (hn : n ≤ 1000) : S.steps ≤ 1000000 ∧ S.loose.length ≤ 1000000 ∧ S.after ≤ 9223372036854775807 := ⟨by have := h.steps; omega, by have := h.loose; omega, h.after⟩
theorem Plain.write {S : DS} {n : Nat} (h : Plain S n) (a : Int) (b : List Nat) (hb : ∀ k, gb b k < 256) (hl : b.length ≤ 20000) : Plain (write S a b).1 (n + 1) := by
  have hw : Plain S (n + 1) := ⟨h.ok, Nat.le_succ_of_le h.steps, by have := h.loose; omega, h.after, h.told, h.down, h.all, h.less⟩
  have hok := h.ok.write a b hb
  unfold DM.write at hok ⊢
  rw [if_neg (by rw [h.down]; decide)] at hok ⊢
  by_cases c1 : a < 0 ∨ (S.seen.length : Int) < a
  · rw [if_pos c1]; exact hw
  · rw [if_neg c1] at hok ⊢
    by_cases c2 : (S.most : Int) - a < (b.length : Int)
    · rw [if_pos c2]; exact hw
    · rw [if_neg c2] at hok ⊢
      rw [step_plain _ _ h.told] at hok ⊢
      have hf : fold (S.loose ++ (List.range (many a.toNat b.length)).map (sector (laid S.seen a.toNat b) a.toNat)) S.safe = laid S.seen a.toNat b := by rw [fold_app, h.all]; exact sectors_fold _ _ _ (by omega)
      refine ⟨hok, ?_, ?_, h.after, h.told, h.down, hf, Nat.le_trans h.less (laid_ge _ _ _)⟩
      · show S.steps + 1 ≤ n + 1; have := h.steps; omega
      · show (S.loose ++ List.map _ _).length ≤ _
        rw [List.length_append, List.length_map, List.length_range]
        have h1 := h.loose
        have h2 := many_le a.toNat b.length
        omega
theorem Plain.sync {S : DS} {n : Nat} (h : Plain S n) : Plain (sync S).1 (n + 1) := by
  have hok := h.ok.sync
  unfold DM.sync at hok ⊢
  rw [if_neg (by rw [h.down]; decide)] at hok ⊢
  rw [step_plain _ _ h.told] at hok ⊢
  exact ⟨hok, by show S.steps + 1 ≤ n + 1; have := h.steps; omega, Nat.zero_le _, h.after, h.told, h.down, rfl, Nat.le_refl _⟩
theorem sync_ok {S : DS} {n : Nat} (h : Plain S n) : (DM.sync S).2 = 0 := by
  unfold DM.sync; rw [if_neg (by rw [h.down]; decide), step_plain _ _ h.told]
/-- What a call of 'written' makes of a device. -/
def wr1 (S : DS) (x : AD) : DS := if x.kind % 9 = 3 then (sync S).1 else (write S x.at_ x.data).1
def wrTo (l : List AD) : Nat → DS
  | 0 => new 20000
  | k + 1 => match l[k]? with | some x => wr1 (wrTo l k) x | none => wrTo l k
theorem wrTo_some {l : List AD} {k : Nat} {x : AD} (h : l[k]? = some x) : wrTo l (k + 1) = wr1 (wrTo l k) x := by rw [wrTo, h]
/-- All bits are kept: what is loose is laid whole. -/
theorem layTo_all (k : List Nat) (l : List LW) (s : List Nat) (h : ∀ i, i < l.length → bit k i = true) : ∀ n, n ≤ l.length → layTo k l s n = fold (l.take n) s
  | 0, _ => rfl
  | n + 1, hn => by
    have hg : l[n]? = some l[n] := List.getElem?_eq_getElem (by omega)
    rw [layTo, hg]
    simp only
    rw [if_pos (h n (by omega)), layTo_all k l s h n (by omega), List.take_add_one, hg, fold_app]
    rfl
theorem layTo_none (k : List Nat) (l : List LW) (s : List Nat) (h : ∀ i, i < l.length → bit k i = false) : ∀ n, n ≤ l.length → layTo k l s n = s
  | 0, _ => rfl
  | n + 1, hn => by
    have hg : l[n]? = some l[n] := List.getElem?_eq_getElem (by omega)
    rw [layTo, hg]
    simp only
    rw [if_neg (by rw [h n (by omega)]; decide), layTo_none k l s h n (by omega)]
theorem bit_nil (i : Nat) : bit [] i = false := by unfold bit; simp
theorem bit_ones (n i : Nat) (h : i / 8 < n) : bit (List.replicate n 255) i = true := by
  have e : gb (List.replicate n 255) (i / 8) = 255 := by unfold gb; rw [List.getD_eq_getElem?_getD, List.getElem?_replicate, if_pos h]; rfl
  unfold bit
  rw [e, List.length_replicate, decide_eq_true h]
  have hr : i % 8 < 8 := Nat.mod_lt _ (by omega)
  have : i % 8 = 0 ∨ i % 8 = 1 ∨ i % 8 = 2 ∨ i % 8 = 3 ∨ i % 8 = 4 ∨ i % 8 = 5 ∨ i % 8 = 6 ∨ i % 8 = 7 := by omega
  rcases this with q | q | q | q | q | q | q | q <;> rw [q] <;> rfl
/-- Sectors that no loose write touches are as they were safe. -/
theorem layTo_apart (k : List Nat) (l : List LW) (s : List Nat) (T : Nat → Prop) (h : ∀ x ∈ l, ∃ c, x.at_ = c * 512 ∧ x.bytes.length ≤ 512 ∧ T c) (i : Nat) (hi : ¬ T (i / 512)) : ∀ n, gb (layTo k l s n) i = gb s i
  | 0 => rfl
  | n + 1 => by
    have ih := layTo_apart k l s T h i hi n
    rw [layTo]
    split
    · rename_i x hx
      obtain ⟨c, h1, h2, h3⟩ := h x (List.mem_of_getElem? hx)
      split
      · rw [laid_get, if_neg, ih]
        rintro ⟨_, q1, q2⟩
        apply hi
        rw [show i / 512 = c by omega]
        exact h3
      · exact ih
    · exact ih
theorem layTo_ge (k : List Nat) (l : List LW) (s : List Nat) : ∀ n, s.length ≤ (layTo k l s n).length
  | 0 => Nat.le_refl _
  | n + 1 => by
    have ih := layTo_ge k l s n
    rw [layTo]
    split
    · split
      · exact Nat.le_trans ih (laid_ge _ _ _)
      · exact ih
    · exact ih
end DM
end Go.Proofs.Ytipdcocliefppaa

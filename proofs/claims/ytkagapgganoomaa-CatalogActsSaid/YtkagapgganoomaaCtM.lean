/- Catalogs on numbers: their cells, what names are, what is laid of them, what a snapshot's coming and going leaves. Own work. -/
import Derived.Test.YtkagapgganoomaaCtA
import Derived.Test.YtkagapgganoomaaBackMath
namespace Go.Proofs.Ytkagapgganoomaa
open Go.ChangeShapes Go.WideShapes Go.ChangeAt Go.RowKit
namespace CT
open RT
/-- A snapshot, a catalog. -/
structure Sn where
  name : ByteArray
  top : Pg
structure Ct where
  top : Pg
  snaps : List Sn
def snc (s : Sn) : List Value := .string s.name :: pc s.top
def sncs (l : List Sn) : List Value := (l.map snc).flatten
/-- The cells of a catalog whose snapshots stand behind v. -/
def ctc (c : Ct) (v : Value) : List Value := pc c.top ++ [v]
structure Ok (c : Ct) : Prop where
  top : Pok c.top
  snaps : ∀ s ∈ c.snaps, Pok s.top
def zp : Pg := ⟨0, List.replicate 32 0⟩
def zero : Ct := ⟨zp, []⟩
theorem zp_ok : Pok zp := ⟨by decide, bytes_zero 32⟩
theorem zero_ok : Ok zero := ⟨zp_ok, fun s hs => by cases hs⟩
theorem snc_len {s : Sn} (h : Pok s.top) : (snc s).length = 34 := by unfold snc; rw [List.length_cons, pc_len h]
theorem sncs_len {l : List Sn} (h : ∀ s ∈ l, Pok s.top) : (sncs l).length = l.length * 34 := by
  unfold sncs
  induction l with
  | nil => rfl
  | cons a r ih =>
    rw [List.map_cons, List.flatten_cons, List.length_append, snc_len (h a (by simp)), ih (fun p hp => h p (by simp [hp])), List.length_cons]
    omega
theorem sncs_app (l m : List Sn) : sncs (l ++ m) = sncs l ++ sncs m := by unfold sncs; rw [List.map_append, List.flatten_append]
theorem sncs_one (s : Sn) : sncs [s] = snc s := by unfold sncs; simp
theorem sncs_get {l : List Sn} (h : ∀ s ∈ l, Pok s.top) {j : Nat} (hj : j < l.length) {i : Nat} (hi : i < 34) : (sncs l)[j * 34 + i]? = (snc l[j])[i]? := by
  induction l generalizing j with
  | nil => simp at hj
  | cons a r ih =>
    have ha := snc_len (h a (by simp))
    have e : sncs (a :: r) = snc a ++ sncs r := by unfold sncs; rw [List.map_cons, List.flatten_cons]
    rw [e]
    cases j with
    | zero =>
      rw [Nat.zero_mul, Nat.zero_add, List.getElem?_append_left (by omega)]
      rfl
    | succ j =>
      rw [List.getElem?_append_right (by omega), ha, show (j + 1) * 34 + i - 34 = j * 34 + i by omega]
      exact ih (fun p hp => h p (by simp [hp])) (by simpa using hj)
theorem pc_one' (p : Pg) : ∀ u ∈ pc p, u.oneCell' = true := fun u hu => by
  unfold pc at hu
  rcases List.mem_cons.1 hu with rfl | q
  · rfl
  · exact row8_one' _ u q
theorem snc_one' (s : Sn) : ∀ u ∈ snc s, u.oneCell' = true := fun u hu => by
  unfold snc at hu
  rcases List.mem_cons.1 hu with rfl | q
  · rfl
  · exact pc_one' _ u q
theorem sncs_one' (l : List Sn) : ∀ u ∈ sncs l, u.oneCell' = true := fun u hu => by
  unfold sncs at hu
  obtain ⟨m, hm, hul⟩ := List.mem_flatten.1 hu
  obtain ⟨p, _, rfl⟩ := List.mem_map.1 hm
  exact snc_one' p u hul
theorem ctc_len {c : Ct} (h : Pok c.top) (v : Value) : (ctc c v).length = 34 := by unfold ctc; rw [List.length_append, pc_len h]; rfl
theorem ctc_at {c : Ct} (v : Value) : (ctc c v)[0]? = some (.int .u32 (c.top.at_ : Int)) := rfl
theorem ctc_snaps {c : Ct} (h : Pok c.top) (v : Value) : (ctc c v)[33]? = some v := by
  unfold ctc; rw [List.getElem?_append_right (by rw [pc_len h]; exact Nat.le_refl _), pc_len h]; rfl
theorem ctc_one {c : Ct} (a : Option Addr) (n k : Nat) : ∀ u ∈ ctc c (.slice a n k), u.oneCell' = true := fun u hu => by
  unfold ctc at hu
  rcases List.mem_append.1 hu with q | q
  · exact pc_one' _ u q
  · simp at q; subst q; rfl
theorem ctc_set {c : Ct} (h : Pok c.top) (v u : Value) : (ctc c v).set 33 u = ctc c u := by
  unfold ctc; rw [List.set_append_right _ _ (by rw [pc_len h]; exact Nat.le_refl _), pc_len h]; rfl
/-- The order of texts. -/
def nlt (a b : ByteArray) : Bool := Op.bytesLess a.toList b.toList
theorem bl_irr : ∀ x, Op.bytesLess x x = false
  | [] => rfl
  | a :: x => by show (decide (a < a) || (a == a && Op.bytesLess x x)) = false; simp [bl_irr x]
theorem bl_trans : ∀ x y z, Op.bytesLess x y = true → Op.bytesLess y z = true → Op.bytesLess x z = true
  | _, [], _, h, _ => by simp [Op.bytesLess] at h
  | _, _ :: _, [], _, h => by simp [Op.bytesLess] at h
  | [], _ :: _, _ :: _, _, _ => rfl
  | a :: x, b :: y, c :: z, h, k => by
    change (decide (a < b) || (a == b && Op.bytesLess x y)) = true at h
    change (decide (b < c) || (b == c && Op.bytesLess y z)) = true at k
    show (decide (a < c) || (a == c && Op.bytesLess x z)) = true
    simp only [Bool.or_eq_true, Bool.and_eq_true, decide_eq_true_eq, beq_iff_eq] at h k ⊢
    rcases h with h | ⟨rfl, h⟩
    · rcases k with k | ⟨rfl, k⟩
      · exact .inl (UInt8.lt_trans h k)
      · exact .inl h
    · rcases k with k | ⟨rfl, k⟩
      · exact .inl k
      · exact .inr ⟨rfl, bl_trans x y z h k⟩
theorem bl_tri : ∀ x y, Op.bytesLess x y = true ∨ x = y ∨ Op.bytesLess y x = true
  | [], [] => .inr (.inl rfl)
  | [], _ :: _ => .inl rfl
  | _ :: _, [] => .inr (.inr rfl)
  | a :: x, b :: y => by
    show (decide (a < b) || (a == b && Op.bytesLess x y)) = true ∨ _ ∨ (decide (b < a) || (b == a && Op.bytesLess y x)) = true
    simp only [Bool.or_eq_true, Bool.and_eq_true, decide_eq_true_eq, beq_iff_eq]
    rcases UInt8.lt_or_lt_of_ne (a := a) (b := b) |> fun f => (Decidable.em (a = b)).elim (fun e => Or.inl e) (fun n => Or.inr (f n)) with e | h | h
    · subst e
      rcases bl_tri x y with k | k | k
      · exact .inl (.inr ⟨rfl, k⟩)
      · exact .inr (.inl (by rw [k]))
      · exact .inr (.inr (.inr ⟨rfl, k⟩))
    · exact .inl (.inl h)
    · exact .inr (.inr (.inl h))
theorem toList_inj {a b : ByteArray} (h : a.toList = b.toList) : a = b := by
  rw [ByteArray.toList_eq, ByteArray.toList_eq] at h
  cases a; cases b; congr 1; exact Array.toList_inj.1 h
theorem nlt_irr (a : ByteArray) : nlt a a = false := bl_irr _
theorem nlt_trans {a b c : ByteArray} (h : nlt a b = true) (k : nlt b c = true) : nlt a c = true := bl_trans _ _ _ h k
theorem nlt_tri (a b : ByteArray) : nlt a b = true ∨ a = b ∨ nlt b a = true := (bl_tri a.toList b.toList).imp_right (·.imp_left toList_inj)
theorem nlt_asymm {a b : ByteArray} (h : nlt a b = true) : nlt b a = false := Bool.eq_false_iff.2 fun k => by have := nlt_trans h k; rw [nlt_irr] at this; cases this
theorem nlt_empty {b : ByteArray} (h : 1 ≤ b.size) : nlt ⟨#[]⟩ b = true := by
  unfold nlt
  rw [ByteArray.toList_eq, ByteArray.toList_eq]
  cases e : b.data.toList with
  | nil => have : b.data.size = 0 := by rw [← Array.length_toList, e]; rfl
           have h2 : b.size = b.data.size := rfl
           omega
  | cons x y => rfl
/-- Is a text a name? -/
def okB (b : Nat) : Bool := decide (33 ≤ b) && decide (b ≤ 126)
def isName (s : ByteArray) : Bool := decide (1 ≤ s.size) && (decide (s.size ≤ 16) && (sb s).all okB)
theorem isName_iff {s : ByteArray} : isName s = true ↔ 1 ≤ s.size ∧ s.size ≤ 16 ∧ ∀ j, j < s.size → okB (gb (sb s) j) = true := by
  unfold isName
  simp only [Bool.and_eq_true, decide_eq_true_eq, List.all_eq_true]
  refine and_congr_right fun _ => and_congr_right fun _ => ⟨fun h j hj => h _ ?_, fun h b hb => ?_⟩
  · unfold gb; rw [List.getD_eq_getElem?_getD, List.getElem?_eq_getElem (by rw [sb_len]; exact hj)]; exact List.getElem_mem _
  · obtain ⟨j, hj, rfl⟩ := List.getElem_of_mem hb
    have := h j (by rw [← sb_len]; exact hj)
    unfold gb at this; rw [List.getD_eq_getElem?_getD, List.getElem?_eq_getElem hj] at this; exact this
/-- May a ref be? -/
def mayP (p : Pg) : Bool := decide (p.at_ ≠ 0) || pgEq p zp
/-- The name of the j-th; is it one, and above the one ahead? -/
def nm (l : List Sn) (j : Nat) : ByteArray := (l[j]?.map Sn.name).getD ⟨#[]⟩
theorem nm_eq {l : List Sn} {j : Nat} (h : j < l.length) : nm l j = l[j].name := by unfold nm; rw [List.getElem?_eq_getElem h]; rfl
def stepOk (l : List Sn) (j : Nat) : Bool := isName (nm l j) && (decide (j = 0) || nlt (nm l (j - 1)) (nm l j))
def rises (l : List Sn) : Bool := (List.range l.length).all (stepOk l)
theorem rises_iff {l : List Sn} : rises l = true ↔ ∀ j, j < l.length → stepOk l j = true := by unfold rises; simp
theorem rises_not {l : List Sn} {j : Nat} (hj : j < l.length) (h : stepOk l j = false) : rises l = false := Bool.eq_false_iff.2 fun k => by
  have := rises_iff.1 k j hj; rw [h] at this; cases this
def tops (c : Ct) : Bool := mayP c.top && c.snaps.all (mayP ·.top)
theorem tops_iff {c : Ct} : tops c = true ↔ mayP c.top = true ∧ ∀ s ∈ c.snaps, mayP s.top = true := by unfold tops; simp
def check (c : Ct) : Int := if 64 < c.snaps.length then 45 else if rises c.snaps = true then (if tops c = true then 0 else 2) else 44
theorem check_zero {c : Ct} : check c = 0 ↔ c.snaps.length ≤ 64 ∧ rises c.snaps = true ∧ tops c = true := by
  unfold check
  by_cases h1 : 64 < c.snaps.length
  · rw [if_pos h1]; constructor
    · intro h; omega
    · intro h; omega
  · rw [if_neg h1]
    by_cases h2 : rises c.snaps = true
    · rw [if_pos h2]
      by_cases h3 : tops c = true
      · rw [if_pos h3]; exact ⟨fun _ => ⟨by omega, h2, h3⟩, fun _ => rfl⟩
      · rw [if_neg h3]; exact ⟨fun h => by omega, fun h => absurd h.2.2 h3⟩
    · rw [if_neg h2]; exact ⟨fun h => by omega, fun h => absurd h.2.1 h2⟩
/-- What rises: names, each one below all behind. -/
theorem rises_name {l : List Sn} (h : rises l = true) {j : Nat} (hj : j < l.length) : isName l[j].name = true := by
  have := rises_iff.1 h j hj
  unfold stepOk at this
  rw [Bool.and_eq_true, nm_eq hj] at this; exact this.1
theorem rises_lt {l : List Sn} (h : rises l = true) {i j : Nat} (hij : i < j) (hj : j < l.length) : nlt l[i].name l[j].name = true := by
  obtain ⟨d, rfl⟩ : ∃ d, j = i + 1 + d := ⟨j - i - 1, by omega⟩
  induction d with
  | zero =>
    have := rises_iff.1 h (i + 1) (by omega)
    unfold stepOk at this
    rw [Bool.and_eq_true, Bool.or_eq_true, nm_eq (by omega), nm_eq (by omega)] at this
    rcases this.2 with q | q
    · simp at q
    · exact q
  | succ d ih =>
    have h1 := ih (by omega) (by omega)
    have := rises_iff.1 h (i + 1 + (d + 1)) hj
    unfold stepOk at this
    rw [Bool.and_eq_true, Bool.or_eq_true, nm_eq hj, nm_eq (by omega)] at this
    rcases this.2 with q | q
    · simp at q
    · exact nlt_trans h1 q
theorem rises_of {l : List Sn} (hn : ∀ s ∈ l, isName s.name = true) (hl : ∀ i (h : i + 1 < l.length), nlt l[i].name l[i + 1].name = true) : rises l = true := rises_iff.2 fun j hj => by
  unfold stepOk
  rw [Bool.and_eq_true, Bool.or_eq_true, nm_eq hj]
  refine ⟨hn _ (List.getElem_mem hj), ?_⟩
  cases j with
  | zero => exact .inl (by simp)
  | succ i => exact .inr (by rw [nm_eq (l := l) (j := i + 1 - 1) (by omega)]; exact hl i hj)
/-- Where a name stands first: its place, or -1. -/
def plc (l : List Sn) (n : ByteArray) : Int := match l.findIdx? (fun s => decide (s.name = n)) with | some j => (j : Int) | none => -1
theorem plc_at {l : List Sn} {n : ByteArray} {k : Nat} (hk : k < l.length) (h : l[k].name = n) (hb : ∀ j (hj : j < l.length), j < k → l[j].name ≠ n) : plc l n = (k : Int) := by
  unfold plc
  have : l.findIdx? (fun s => decide (s.name = n)) = some k := by
    rw [List.findIdx?_eq_some_iff_getElem]
    exact ⟨hk, by simpa using h, fun j hj => by simpa using hb j (by omega) hj⟩
  rw [this]
theorem plc_none {l : List Sn} {n : ByteArray} (h : ∀ j (hj : j < l.length), l[j].name ≠ n) : plc l n = -1 := by
  unfold plc
  have : l.findIdx? (fun s => decide (s.name = n)) = none := by
    rw [List.findIdx?_eq_none_iff]
    intro s hs
    obtain ⟨j, hj, rfl⟩ := List.getElem_of_mem hs
    simpa using h j hj
  rw [this]
theorem plc_cases (l : List Sn) (n : ByteArray) : (plc l n = -1 ∧ ∀ s ∈ l, s.name ≠ n) ∨ ∃ (k : Nat) (hk : k < l.length), plc l n = (k : Int) ∧ l[k].name = n := by
  unfold plc
  cases e : l.findIdx? (fun s => decide (s.name = n)) with
  | none =>
    rw [List.findIdx?_eq_none_iff] at e
    exact .inl ⟨rfl, fun s hs => by simpa using e s hs⟩
  | some k =>
    rw [List.findIdx?_eq_some_iff_getElem] at e
    obtain ⟨hk, h, _⟩ := e
    exact .inr ⟨k, hk, rfl, by simpa using h⟩
/-- Where a name that is none of theirs comes in. -/
def spot (l : List Sn) (n : ByteArray) : Nat := l.findIdx (fun s => nlt n s.name)
theorem spot_le (l : List Sn) (n : ByteArray) : spot l n ≤ l.length := List.findIdx_le_length
theorem spot_eq {l : List Sn} {n : ByteArray} {k : Nat} (hk : k ≤ l.length) (h1 : ∀ j (hj : j < l.length), j < k → nlt n l[j].name = false) (h2 : ∀ (h : k < l.length), nlt n l[k].name = true) : spot l n = k := by
  unfold spot
  by_cases h : k < l.length
  · rw [List.findIdx_eq h]
    exact ⟨h2 h, fun j hj => h1 j (by omega) hj⟩
  · have : k = l.length := by omega
    subst this
    rw [List.findIdx_eq_length]
    intro s hs
    obtain ⟨j, hj, rfl⟩ := List.getElem_of_mem hs
    exact h1 j hj hj
def added (c : Ct) (n : ByteArray) : List Sn := c.snaps.take (spot c.snaps n) ++ ⟨n, c.top⟩ :: c.snaps.drop (spot c.snaps n)
def snap (c : Ct) (n : ByteArray) : Ct × Int :=
  if check c ≠ 0 then (zero, check c) else if isName n = false then (zero, 44) else if 0 ≤ plc c.snaps n then (zero, 23) else if c.snaps.length = 64 then (zero, 45) else (⟨c.top, added c n⟩, 0)
def without (l : List Sn) (k : Nat) : List Sn := l.take k ++ l.drop (k + 1)
def drop (c : Ct) (n : ByteArray) : Ct × Int :=
  if check c ≠ 0 then (zero, check c) else if plc c.snaps n < 0 then (zero, 22) else (⟨c.top, without c.snaps (plc c.snaps n).toNat⟩, 0)
def topAt (l : List Sn) (k : Nat) : Pg := (l[k]?.map Sn.top).getD zp
theorem topAt_eq {l : List Sn} {k : Nat} (h : k < l.length) : topAt l k = l[k].top := by unfold topAt; rw [List.getElem?_eq_getElem h]; rfl
def revert (c : Ct) (n : ByteArray) : Ct × Int :=
  if check c ≠ 0 then (zero, check c) else if plc c.snaps n < 0 then (zero, 22) else (⟨topAt c.snaps (plc c.snaps n).toNat, c.snaps⟩, 0)
def find (c : Ct) (n : ByteArray) : Pg × Int := if plc c.snaps n < 0 then (zp, 22) else (topAt c.snaps (plc c.snaps n).toNat, 0)
/-- What is laid. -/
def ref (p : Pg) : List Nat := be p.at_ 4 ++ p.sum
def one (s : Sn) : List Nat := s.name.size :: sb s.name ++ ref s.top
def ones (l : List Sn) : List Nat := (l.map one).flatten
def lay (c : Ct) : List Nat := ref c.top ++ c.snaps.length :: ones c.snaps
def put (c : Ct) : List Nat := if check c = 0 then lay c else []
theorem ref_len {p : Pg} (h : Pok p) : (ref p).length = 36 := by unfold ref; rw [List.length_append, be_len, h.2.1]
theorem ones_app (l m : List Sn) : ones (l ++ m) = ones l ++ ones m := by unfold ones; rw [List.map_append, List.flatten_append]
theorem ones_cons (a : Sn) (r : List Sn) : ones (a :: r) = one a ++ ones r := by unfold ones; rw [List.map_cons, List.flatten_cons]
theorem ones_take {l : List Sn} {k : Nat} (hk : k < l.length) : ones (l.take (k + 1)) = ones (l.take k) ++ one l[k] := by
  rw [List.take_succ_eq_append_getElem hk, ones_app]
  congr 1
  unfold ones; simp
theorem one_len {s : Sn} (h : Pok s.top) : (one s).length = 37 + s.name.size := by
  unfold one; rw [List.length_append, List.length_cons, ref_len h, sb_len]; omega
/-- What is laid tells the catalog: step by step, whatever is behind. -/
theorem ref_inj {p q : Pg} (hp : Pok p) (hq : Pok q) {x y : List Nat} (h : ref p ++ x = ref q ++ y) : p = q ∧ x = y := by
  obtain ⟨h1, h2⟩ := List.append_inj h (by rw [ref_len hp, ref_len hq])
  refine ⟨?_, h2⟩
  unfold ref at h1
  obtain ⟨h3, h4⟩ := List.append_inj h1 (by rw [be_len, be_len])
  have h5 : p.at_ = q.at_ := by
    have a := num_be 4 p.at_ (by have := hp.1; omega) (by decide)
    have b := num_be 4 q.at_ (by have := hq.1; omega) (by decide)
    rw [← a, ← b, h3]
  cases p; cases q; simp only at h4 h5; rw [h4, h5]
theorem sb_inj {a b : ByteArray} (h : sb a = sb b) : a = b := by rw [← bstr_sb a, ← bstr_sb b, h]
theorem one_inj {s t : Sn} (hs : Pok s.top) (ht : Pok t.top) {x y : List Nat} (h : one s ++ x = one t ++ y) : s = t ∧ x = y := by
  unfold one at h
  simp only [List.cons_append, List.append_assoc, List.cons.injEq] at h
  obtain ⟨h1, h2⟩ := h
  obtain ⟨h3, h4⟩ := List.append_inj h2 (by rw [sb_len, sb_len, h1])
  obtain ⟨h5, h6⟩ := ref_inj hs ht h4
  have h7 := sb_inj h3
  cases s; cases t; simp only at h5 h7; exact ⟨by rw [h5, h7], h6⟩
theorem ones_inj : ∀ {l m : List Sn}, (∀ s ∈ l, Pok s.top) → (∀ s ∈ m, Pok s.top) → l.length = m.length → ∀ {x y : List Nat}, ones l ++ x = ones m ++ y → l = m ∧ x = y
  | [], [], _, _, _, x, y, h => ⟨rfl, h⟩
  | a :: l, b :: m, hl, hm, hn, x, y, h => by
    rw [ones_cons, ones_cons, List.append_assoc, List.append_assoc] at h
    obtain ⟨h1, h2⟩ := one_inj (hl a (by simp)) (hm b (by simp)) h
    obtain ⟨h3, h4⟩ := ones_inj (fun s hs => hl s (by simp [hs])) (fun s hs => hm s (by simp [hs])) (by simpa using hn) h2
    exact ⟨by rw [h1, h3], h4⟩
theorem lay_inj {c d : Ct} (hc : Ok c) (hd : Ok d) {x y : List Nat} (h : lay c ++ x = lay d ++ y) : c = d ∧ x = y := by
  unfold lay at h
  rw [List.append_assoc, List.append_assoc] at h
  obtain ⟨h1, h2⟩ := ref_inj hc.top hd.top h
  simp only [List.cons_append, List.cons.injEq] at h2
  obtain ⟨h3, h4⟩ := ones_inj hc.snaps hd.snaps h2.1 h2.2
  cases c; cases d; simp only at h1 h3; exact ⟨by rw [h1, h3], h4⟩
/-- What Get tells of bytes. -/
def Got (b : List Nat) (c : Ct) (e : Int) : Prop := (Ok c ∧ check c = 0 ∧ lay c = b ∧ e = 0) ∨ (c = zero ∧ e = 4 ∧ ∀ d, Ok d → check d = 0 → lay d ≠ b)
theorem got_one {b : List Nat} {c d : Ct} {e f : Int} (h : Got b c e) (k : Got b d f) : c = d ∧ e = f := by
  rcases h with ⟨h1, h2, h3, h4⟩ | ⟨h1, h2, h3⟩ <;> rcases k with ⟨k1, k2, k3, k4⟩ | ⟨k1, k2, k3⟩
  · refine ⟨(lay_inj (x := []) (y := []) h1 k1 (by rw [h3, k3])).1, by rw [h4, k4]⟩
  · exact absurd h3 (k3 c h1 h2)
  · exact absurd k3 (h3 d k1 k2)
  · exact ⟨by rw [h1, k1], by rw [h2, k2]⟩
theorem pgEq_self (p : Pg) : pgEq p p = true := pgEq_iff.2 rfl
end CT
end Go.Proofs.Ytkagapgganoomaa

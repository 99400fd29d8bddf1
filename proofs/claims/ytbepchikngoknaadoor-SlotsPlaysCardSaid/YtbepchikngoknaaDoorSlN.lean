/- Texts of one subject in one file: SlMath, SlMem, SlEq, SlNum. Own work. -/
import Derived.Test.YtbepchikngoknaaDoorWrapMath
import Derived.Test.YtbepchikngoknaaDoorBlkRd
import Derived.Test.YtbepchikngoknaaDoorReg
import Derived.Test.YtbepchikngoknaaDoorKdfMath
import Derived.BigQuiet
import Derived.Great.BuildSlice
/- Key slots on numbers: a slot, a table, what is laid of it, and what is read. Own work. -/
namespace Go.Proofs.YtbepchikngoknaaDoor
open SM WM
namespace SL
structure Slot where
  used : Bool
  turns : Nat
  salt : List Nat
  sld : List Nat
  chk : List Nat
instance : DecidableEq Slot := fun a b => by
  cases a; cases b
  simp only [Slot.mk.injEq]
  exact inferInstance
structure Sok (s : Slot) : Prop where
  turns : s.turns < 65536
  salt : Bytes 16 s.salt
  sld : Bytes 32 s.sld
  chk : Bytes 32 s.chk
def none_ : Slot := ⟨false, 0, List.replicate 16 0, List.replicate 32 0, List.replicate 32 0⟩
theorem none_ok : Sok none_ := ⟨by decide, bytes_zero 16, bytes_zero 32, bytes_zero 32⟩
def may (s : Slot) : Bool := if s.used then decide (1 ≤ s.turns ∧ s.turns ≤ 4096) else decide (s = none_)
/-- What is laid of a slot. -/
def bit (s : Slot) : Nat := if s.used then 1 else 0
def lay (s : Slot) : List Nat := bit s :: (be s.turns 2 ++ (s.salt ++ (s.sld ++ (s.chk ++ List.replicate 45 0))))
def put (T : List Slot) : List Nat := (T.map lay).flatten
def read (c : List Nat) : Slot := ⟨gb c 0 == 1, gb c 1 * 256 + gb c 2, (c.drop 3).take 16, (c.drop 19).take 32, (c.drop 51).take 32⟩
def piece (b : List Nat) (i : Nat) : List Nat := (b.drop (i * 128)).take 128
def reads (b : List Nat) : List Slot := (List.range 8).map fun i => read (piece b i)
/-- Are these bytes what is laid of a table whose slots all may be? -/
def isPut (b : List Nat) : Prop := b.length = 1024 ∧ (∀ i, i < 8 → may (read (piece b i)) = true) ∧ put (reads b) = b
structure Tok (T : List Slot) : Prop where
  len : T.length = 8
  ok : ∀ s ∈ T, Sok s
def zero : List Slot := List.replicate 8 none_
theorem zero_ok : Tok zero := ⟨rfl, fun s hs => by rw [List.eq_of_mem_replicate hs]; exact none_ok⟩
theorem Tok.set {T : List Slot} (h : Tok T) (i : Nat) {s : Slot} (hs : Sok s) : Tok (T.set i s) := ⟨by rw [List.length_set]; exact h.len, fun u hu => by
  rcases List.mem_or_eq_of_mem_set hu with h1 | h1
  · exact h.ok u h1
  · rw [h1]; exact hs⟩
def at_ (T : List Slot) (i : Nat) : Slot := T.getD i none_
theorem at_eq {T : List Slot} {i : Nat} (h : i < T.length) : T[i]? = some (at_ T i) := by
  unfold at_; rw [List.getD_eq_getElem?_getD, List.getElem?_eq_getElem h]; rfl
theorem at_mem {T : List Slot} {i : Nat} (h : i < T.length) : at_ T i ∈ T := List.mem_of_getElem? (at_eq h)
theorem Tok.at_ {T : List Slot} (h : Tok T) {i : Nat} (hi : i < 8) : Sok (at_ T i) := h.ok _ (at_mem (by rw [h.len]; exact hi))
def used (T : List Slot) : Nat := T.countP (·.used)
theorem lay_len {s : Slot} (h : Sok s) : (lay s).length = 128 := by
  unfold lay
  simp only [List.length_cons, List.length_append, be_len, h.salt.1, h.sld.1, h.chk.1, List.length_replicate]
theorem be2 (n : Nat) (h : n < 65536) : be n 2 = [n / 256, n % 256] := by
  unfold be
  simp [List.range_succ]
  omega
theorem lay_read {s : Slot} (h : Sok s) : read (lay s) = s := by
  obtain ⟨u, t, a, b, c⟩ := s
  obtain ⟨h1, h2, h3, h4⟩ := h
  simp only at h1 h2 h3 h4
  unfold read lay
  simp only [be2 t h1, List.cons_append, List.nil_append]
  have e3 : (bit ⟨u, t, a, b, c⟩ :: (t / 256) :: (t % 256) :: (a ++ (b ++ (c ++ List.replicate 45 0)))).drop 3 = a ++ (b ++ (c ++ List.replicate 45 0)) := rfl
  have e19 : (bit ⟨u, t, a, b, c⟩ :: (t / 256) :: (t % 256) :: (a ++ (b ++ (c ++ List.replicate 45 0)))).drop 19 = b ++ (c ++ List.replicate 45 0) := by
    show (a ++ (b ++ (c ++ List.replicate 45 0))).drop 16 = _
    rw [List.drop_left' h2.1]
  have e51 : (bit ⟨u, t, a, b, c⟩ :: (t / 256) :: (t % 256) :: (a ++ (b ++ (c ++ List.replicate 45 0)))).drop 51 = c ++ List.replicate 45 0 := by
    show (a ++ (b ++ (c ++ List.replicate 45 0))).drop (16 + 32) = _
    rw [← List.drop_drop, List.drop_left' h2.1, List.drop_left' h3.1]
  rw [e3, e19, e51, List.take_left' h2.1, List.take_left' h3.1, List.take_left' h4.1]
  have g0 : gb (bit ⟨u, t, a, b, c⟩ :: (t / 256) :: (t % 256) :: (a ++ (b ++ (c ++ List.replicate 45 0)))) 0 = bit ⟨u, t, a, b, c⟩ := rfl
  have g1 : gb (bit ⟨u, t, a, b, c⟩ :: (t / 256) :: (t % 256) :: (a ++ (b ++ (c ++ List.replicate 45 0)))) 1 = t / 256 := rfl
  have g2 : gb (bit ⟨u, t, a, b, c⟩ :: (t / 256) :: (t % 256) :: (a ++ (b ++ (c ++ List.replicate 45 0)))) 2 = t % 256 := rfl
  rw [g0, g1, g2, show t / 256 * 256 + t % 256 = t by omega]
  cases u <;> rfl
theorem lay_byte {s : Slot} (h : Sok s) (k : Nat) : gb (lay s) k < 256 := by
  unfold lay
  cases k with
  | zero => show bit s < 256; unfold bit; split <;> decide
  | succ k =>
    show gb (be s.turns 2 ++ (s.salt ++ (s.sld ++ (s.chk ++ List.replicate 45 0)))) k < 256
    exact gb_app _ _ (be_byte _ _) (gb_app _ _ h.salt.2 (gb_app _ _ h.sld.2 (gb_app _ _ h.chk.2 (bytes_zero 45).2))) k
theorem put_nil : put [] = [] := rfl
theorem put_cons (s : Slot) (T : List Slot) : put (s :: T) = lay s ++ put T := rfl
theorem put_app (T U : List Slot) : put (T ++ U) = put T ++ put U := by unfold put; rw [List.map_append, List.flatten_append]
theorem put_len : ∀ {T : List Slot}, (∀ s ∈ T, Sok s) → (put T).length = T.length * 128
  | [], _ => rfl
  | s :: T, h => by
    rw [put_cons, List.length_append, lay_len (h s (List.mem_cons_self ..)), put_len (fun u hu => h u (List.mem_cons_of_mem _ hu)), List.length_cons]; omega
theorem put_byte : ∀ {T : List Slot}, (∀ s ∈ T, Sok s) → ∀ k, gb (put T) k < 256
  | [], _ => fun k => by show gb [] k < 256; rw [gb_nil]; decide
  | s :: T, h => gb_app _ _ (lay_byte (h s (List.mem_cons_self ..))) (put_byte (fun u hu => h u (List.mem_cons_of_mem _ hu)))
theorem piece_put : ∀ {T : List Slot} (_ : ∀ s ∈ T, Sok s) (i : Nat), i < T.length → piece (put T) i = lay (at_ T i)
  | [], _, i, hi => absurd hi (Nat.not_lt_zero i)
  | s :: T, h, 0, _ => by
    unfold piece
    rw [put_cons, Nat.zero_mul, List.drop_zero, List.take_left' (lay_len (h s (List.mem_cons_self ..)))]; rfl
  | s :: T, h, i + 1, hi => by
    have ih := piece_put (T := T) (fun u hu => h u (List.mem_cons_of_mem _ hu)) i (by simpa using hi)
    unfold piece at ih ⊢
    rw [put_cons, show (i + 1) * 128 = 128 + i * 128 by omega, ← List.drop_drop, List.drop_left' (lay_len (h s (List.mem_cons_self ..))), ih]; rfl
theorem reads_put {T : List Slot} (h : Tok T) : reads (put T) = T := by
  apply List.ext_getElem?
  intro i
  unfold reads
  rw [List.getElem?_map]
  by_cases hi : i < 8
  · rw [List.getElem?_range hi, Option.map_some, piece_put h.ok i (by rw [h.len]; exact hi), lay_read (h.at_ hi), at_eq (by rw [h.len]; exact hi)]
  · rw [List.getElem?_eq_none (by simpa using hi), List.getElem?_eq_none (by rw [h.len]; omega)]; rfl
theorem isPut_put {T : List Slot} (h : Tok T) : isPut (put T) ↔ ∀ i, i < 8 → may (at_ T i) = true := by
  unfold isPut
  rw [reads_put h]
  constructor
  · rintro ⟨_, h2, _⟩ i hi
    have := h2 i hi
    rw [piece_put h.ok i (by rw [h.len]; exact hi), lay_read (h.at_ hi)] at this; exact this
  · intro h2
    refine ⟨by rw [put_len h.ok, h.len], fun i hi => ?_, rfl⟩
    rw [piece_put h.ok i (by rw [h.len]; exact hi), lay_read (h.at_ hi)]; exact h2 i hi
theorem read_ok {c : List Nat} (hc : c.length = 128) (hb : ∀ k, gb c k < 256) : Sok (read c) := by
  have hd : ∀ o n k, gb ((c.drop o).take n) k < 256 := fun o n k => gb_take_byte _ _ (fun j => by rw [gb_drop]; exact hb _) k
  refine ⟨?_, ⟨?_, hd _ _⟩, ⟨?_, hd _ _⟩, ⟨?_, hd _ _⟩⟩
  · show gb c 1 * 256 + gb c 2 < 65536
    have := hb 1; have := hb 2; omega
  all_goals (show ((c.drop _).take _).length = _; rw [List.length_take, List.length_drop, hc]; decide)
theorem piece_len {b : List Nat} (hb : b.length = 1024) {i : Nat} (hi : i < 8) : (piece b i).length = 128 := by
  unfold piece; rw [List.length_take, List.length_drop, hb]; omega
theorem piece_byte {b : List Nat} (hb : ∀ k, gb b k < 256) (i k : Nat) : gb (piece b i) k < 256 := gb_take_byte _ _ (fun j => by rw [gb_drop]; exact hb _) k
theorem piece_get (b : List Nat) (i k : Nat) (hk : k < 128) : gb (piece b i) k = gb b (i * 128 + k) := by
  unfold piece; rw [gb_take _ _ _ hk, gb_drop]
theorem reads_ok {b : List Nat} (hb : b.length = 1024) (hy : ∀ k, gb b k < 256) : Tok (reads b) := by
  refine ⟨by simp [reads], fun s hs => ?_⟩
  unfold reads at hs
  obtain ⟨i, hi, rfl⟩ := List.mem_map.1 hs
  exact read_ok (piece_len hb (List.mem_range.1 hi)) (piece_byte hy i)
/-- The key that a passphrase makes, and whether it opens a slot. -/
def key (p salt : List Nat) (t : Nat) : List Nat := kder p salt t 32
theorem key_bytes (p salt : List Nat) (t : Nat) : Bytes 32 (key p salt t) := ⟨kder_len _ _ _ _, fun k => by unfold key kder; exact gb_take_byte _ _ (kblocks_byte _ _ _ _) k⟩
def opensAt (p : List Nat) (s : Slot) : Bool := s.used && may s && decide (werr (key p s.salt s.turns) s.sld s.chk = 0)
def which (T : List Slot) (p : List Nat) : Option Nat := T.findIdx? (opensAt p)
def oerr (T : List Slot) (p : List Nat) : Int := if 512 < p.length then 5 else if (which T p).isSome then 0 else 30
def oidx (T : List Slot) (p : List Nat) : Nat := if 512 < p.length then 0 else (which T p).getD 0
def okey (T : List Slot) (p : List Nat) : List Nat := if oerr T p = 0 then wopen (key p (at_ T (oidx T p)).salt (at_ T (oidx T p)).turns) (at_ T (oidx T p)).sld (at_ T (oidx T p)).chk else List.replicate 32 0
def comes (T : List Slot) (p : List Nat) (t : Int) : Int := if 512 < p.length then 5 else if t < 1 ∨ 4096 < t then 2 else if oerr T p = 0 then 23 else 0
def made (p salt : List Nat) (t : Nat) (m : List Nat) : Slot := ⟨true, t, salt, wseal (key p salt t) m, wcheck (key p salt t) (wseal (key p salt t) m)⟩
theorem made_ok (p : List Nat) {salt m : List Nat} {t : Nat} (ht : t < 65536) (hs : Bytes 16 salt) (hm : Bytes 32 m) : Sok (made p salt t m) :=
  ⟨ht, hs, wseal_bytes _ hm, wcheck_bytes _ _⟩
def free (T : List Slot) : Option Nat := T.findIdx? (fun s => !s.used)
def aerr (T : List Slot) (p : List Nat) (t : Int) : Int := if comes T p t = 0 then (if (free T).isSome then 0 else 32) else comes T p t
def add (T : List Slot) (p salt : List Nat) (t : Int) (m : List Nat) : List Slot := if aerr T p t = 0 then T.set ((free T).getD 0) (made p salt t.toNat m) else zero
def rerr (T : List Slot) (p : List Nat) : Int := if oerr T p = 0 then (if used T = 1 then 31 else 0) else oerr T p
def remove (T : List Slot) (p : List Nat) : List Slot := if rerr T p = 0 then T.set (oidx T p) none_ else zero
def terr (T : List Slot) (p q : List Nat) (t : Int) : Int := if oerr T p = 0 then comes T q t else oerr T p
def rotate (T : List Slot) (p q salt : List Nat) (t : Int) : List Slot := if terr T p q t = 0 then T.set (oidx T p) (made q salt t.toNat (okey T p)) else zero
theorem which_some {T : List Slot} {p : List Nat} {i : Nat} (hi : i < T.length) (h : opensAt p (at_ T i) = true) (hb : ∀ j, j < i → opensAt p (at_ T j) = false) : which T p = some i := by
  unfold which
  rw [List.findIdx?_eq_some_iff_getElem]
  have e : ∀ j (hj : j < T.length), T[j] = at_ T j := fun j hj => by
    have := at_eq hj
    rw [List.getElem?_eq_getElem hj] at this; exact Option.some.inj this
  refine ⟨hi, by rw [e i hi]; exact h, fun j hj => by rw [e j (by omega), hb j hj]; decide⟩
theorem which_none {T : List Slot} {p : List Nat} (hb : ∀ j, j < T.length → opensAt p (at_ T j) = false) : which T p = none := by
  unfold which
  rw [List.findIdx?_eq_none_iff]
  intro s hs
  obtain ⟨j, hj, rfl⟩ := List.getElem_of_mem hs
  have := at_eq hj
  rw [List.getElem?_eq_getElem hj] at this
  rw [Option.some.inj this]; exact hb j hj
theorem free_some {T : List Slot} {i : Nat} (hi : i < T.length) (h : (at_ T i).used = false) (hb : ∀ j, j < i → (at_ T j).used = true) : free T = some i := by
  unfold free
  rw [List.findIdx?_eq_some_iff_getElem]
  have e : ∀ j (hj : j < T.length), T[j] = at_ T j := fun j hj => by
    have := at_eq hj
    rw [List.getElem?_eq_getElem hj] at this; exact Option.some.inj this
  refine ⟨hi, by rw [e i hi, h]; rfl, fun j hj => by rw [e j (by omega), hb j hj]; decide⟩
theorem free_none {T : List Slot} (hb : ∀ j, j < T.length → (at_ T j).used = true) : free T = none := by
  unfold free
  rw [List.findIdx?_eq_none_iff]
  intro s hs
  obtain ⟨j, hj, rfl⟩ := List.getElem_of_mem hs
  have := at_eq hj
  rw [List.getElem?_eq_getElem hj] at this
  rw [Option.some.inj this, hb j hj]; rfl
end SL
end Go.Proofs.YtbepchikngoknaaDoor
/- Key slots in memory and by value: the cells of a slot and of a table; '==' on both. Own work. -/
namespace Go.Proofs.YtbepchikngoknaaDoor
open Go.ChangeShapes Go.WideShapes Go.ChangeAt Go.RowKit
open SL
/-- The cells of a slot, and of a table. -/
def slc (s : Slot) : List Value := .bool s.used :: .int .u16 (s.turns : Int) :: (row8 s.salt ++ (row8 s.sld ++ row8 s.chk))
def tbc (T : List Slot) : List Value := (T.map slc).flatten
theorem slc_len {s : Slot} (h : Sok s) : (slc s).length = 82 := by
  unfold slc
  simp only [List.length_cons, List.length_append, row8_len, h.salt.1, h.sld.1, h.chk.1]
theorem slc_one (s : Slot) : ∀ u ∈ slc s, u.oneCell' = true := by
  intro u hu
  unfold slc at hu
  rcases List.mem_cons.1 hu with rfl | hu
  · rfl
  rcases List.mem_cons.1 hu with rfl | hu
  · rfl
  rcases List.mem_append.1 hu with hu | hu
  · exact row8_one' _ u hu
  rcases List.mem_append.1 hu with hu | hu
  · exact row8_one' _ u hu
  · exact row8_one' _ u hu
theorem slc_all (s : Slot) : (slc s).toArray.all (·.oneCell') = true := by
  rw [List.all_toArray, List.all_eq_true]; exact slc_one s
theorem tbc_cons (s : Slot) (T : List Slot) : tbc (s :: T) = slc s ++ tbc T := rfl
theorem tbc_lenN : ∀ {T : List Slot}, (∀ s ∈ T, Sok s) → (tbc T).length = T.length * 82
  | [], _ => rfl
  | s :: T, h => by
    rw [tbc_cons, List.length_append, slc_len (h s (List.mem_cons_self ..)), tbc_lenN (fun u hu => h u (List.mem_cons_of_mem _ hu)), List.length_cons]; omega
theorem tbc_len {T : List Slot} (h : Tok T) : (tbc T).length = 656 := by rw [tbc_lenN h.ok, h.len]
theorem tbc_all (T : List Slot) : (tbc T).toArray.all (·.oneCell') = true := by
  rw [List.all_toArray, List.all_eq_true]
  intro u hu
  unfold tbc at hu
  obtain ⟨c, hc, hu⟩ := List.mem_flatten.1 hu
  obtain ⟨x, _, rfl⟩ := List.mem_map.1 hc
  exact slc_one x u hu
theorem tbc_drop : ∀ {T : List Slot} (_ : ∀ s ∈ T, Sok s) (i : Nat), i < T.length → ((tbc T).drop (i * 82)).take 82 = slc (at_ T i)
  | [], _, i, hi => absurd hi (Nat.not_lt_zero i)
  | s :: T, h, 0, _ => by rw [tbc_cons, Nat.zero_mul, List.drop_zero, List.take_left' (slc_len (h s (List.mem_cons_self ..)))]; rfl
  | s :: T, h, i + 1, hi => by
    have ih := tbc_drop (T := T) (fun u hu => h u (List.mem_cons_of_mem _ hu)) i (by simpa using hi)
    rw [tbc_cons, show (i + 1) * 82 = 82 + i * 82 by omega, ← List.drop_drop, List.drop_left' (slc_len (h s (List.mem_cons_self ..))), ih]; rfl
theorem tbc_get {T : List Slot} (h : Tok T) {i : Nat} (hi : i < 8) (j : Nat) (hj : j < 82) : (tbc T)[i * 82 + j]? = (slc (at_ T i))[j]? := by
  rw [← tbc_drop h.ok i (by rw [h.len]; exact hi), List.getElem?_take_of_lt hj, List.getElem?_drop]
theorem tbc_set : ∀ {T : List Slot} (_ : ∀ s ∈ T, Sok s) (i : Nat) {s : Slot} (_ : Sok s), i < T.length → splice (tbc T) (i * 82) (slc s) = tbc (T.set i s)
  | [], _, i, _, _, hi => absurd hi (Nat.not_lt_zero i)
  | u :: T, h, 0, s, hs, _ => by
    unfold splice
    rw [Nat.zero_mul, List.take_zero, Nat.zero_add, tbc_cons, slc_len hs, List.drop_left' (slc_len (h u (List.mem_cons_self ..)))]; rfl
  | u :: T, h, i + 1, s, hs, hi => by
    have ih := tbc_set (T := T) (fun x hx => h x (List.mem_cons_of_mem _ hx)) i hs (by simpa using hi)
    have hu := slc_len (h u (List.mem_cons_self ..))
    unfold splice at ih ⊢
    rw [tbc_cons, show (i + 1) * 82 = 82 + i * 82 by omega, Nat.add_assoc, ← List.drop_drop, List.drop_left' hu, List.take_append, hu, List.take_of_length_le (by rw [hu]; omega), show 82 + i * 82 - 82 = i * 82 by omega, List.set_cons_succ, tbc_cons, ← ih]
    simp only [List.append_assoc]
/-- Parts of a slot in a block. -/
theorem slc_salt (s : Slot) (j : Nat) (u : Value) (hu : (row8 s.salt)[j]? = some u) : (slc s)[2 + j]? = some u := by
  unfold slc
  rw [Nat.add_comm 2 j, List.getElem?_cons_succ, List.getElem?_cons_succ, List.getElem?_append_left (by
    by_cases h : j < (row8 s.salt).length
    · exact h
    · rw [List.getElem?_eq_none (by omega)] at hu; cases hu)]
  exact hu
theorem slc_sld {s : Slot} (h : Sok s) (j : Nat) (u : Value) (hu : (row8 s.sld)[j]? = some u) : (slc s)[18 + j]? = some u := by
  unfold slc
  have e : (row8 s.salt).length = 16 := by rw [row8_len]; exact h.salt.1
  rw [show 18 + j = (16 + j) + 1 + 1 by omega, List.getElem?_cons_succ, List.getElem?_cons_succ, List.getElem?_append_right (by omega), e, show 16 + j - 16 = j by omega, List.getElem?_append_left (by
    by_cases h : j < (row8 s.sld).length
    · exact h
    · rw [List.getElem?_eq_none (by omega)] at hu; cases hu)]
  exact hu
theorem slc_chk {s : Slot} (h : Sok s) (j : Nat) (u : Value) (hu : (row8 s.chk)[j]? = some u) : (slc s)[50 + j]? = some u := by
  unfold slc
  have e : (row8 s.salt).length = 16 := by rw [row8_len]; exact h.salt.1
  have e2 : (row8 s.sld).length = 32 := by rw [row8_len]; exact h.sld.1
  rw [show 50 + j = (48 + j) + 1 + 1 by omega, List.getElem?_cons_succ, List.getElem?_cons_succ, List.getElem?_append_right (by omega), e, show 48 + j - 16 = 32 + j by omega, List.getElem?_append_right (by omega), e2, show 32 + j - 32 = j by omega]
  exact hu
theorem Blk.salt {w : World} {g : Nat} {t : TypeId} {s : Slot} (h : Blk w g t (slc s)) : w.rangeAt g 2 (row8 s.salt) := range_part h 2 _ (slc_salt s)
theorem Blk.sld {w : World} {g : Nat} {t : TypeId} {s : Slot} (h : Blk w g t (slc s)) (hs : Sok s) : w.rangeAt g 18 (row8 s.sld) := range_part h 18 _ (slc_sld hs)
theorem Blk.chk {w : World} {g : Nat} {t : TypeId} {s : Slot} (h : Blk w g t (slc s)) (hs : Sok s) : w.rangeAt g 50 (row8 s.chk) := range_part h 50 _ (slc_chk hs)
theorem rd_range {w : World} {g o n : Nat} {l : List Nat} (h : w.rangeAt g o (row8 l)) (hl : Bytes n l) (hn : n ≤ 140737488355328) : Rd w (.slice (some ⟨g, o, none⟩) n n) l := by
  obtain ⟨rfl, hb⟩ := hl
  refine ⟨hb, hn, .inr ⟨_, _, rfl, Nat.le_refl _, fun j hj => ?_⟩⟩
  rw [Addr.add_lit]
  exact h j _ (row8_val l j hj)
/-- A byte of a slice, at a plain address. -/
theorem rd_spot {w : World} {ao : Option Addr} {n cap : Nat} {l : List Nat} (h : Rd w (.slice ao n cap) l) (j : Nat) (hj : j < l.length) : ∃ b off, ao = some ⟨b, off, none⟩ ∧ w.cell? ⟨b, off + j, none⟩ = some (.int .u8 ((gb l j : Nat) : Int)) := by
  obtain ⟨ad, e, h0⟩ := h.at_ 0 (by omega)
  obtain ⟨b, off, spot⟩ := ad
  have hspot : spot = none := by simpa [Addr.add] using World.cell?_spot h0
  subst hspot
  obtain ⟨ad2, e2, h1⟩ := h.at_ j hj
  rw [e] at e2
  obtain rfl := Option.some.inj e2
  exact ⟨b, off, e, by rw [← Addr.add_lit]; exact h1⟩
theorem Blk.rdSalt {w : World} {g : Nat} {t : TypeId} {s : Slot} (h : Blk w g t (slc s)) (hs : Sok s) : Rd w (.slice (some ⟨g, 2, none⟩) 16 16) s.salt := rd_range h.salt hs.salt (by decide)
theorem Blk.rdSld {w : World} {g : Nat} {t : TypeId} {s : Slot} (h : Blk w g t (slc s)) (hs : Sok s) : Rd w (.slice (some ⟨g, 18, none⟩) 32 32) s.sld := rd_range (h.sld hs) hs.sld (by decide)
theorem Blk.rdChk {w : World} {g : Nat} {t : TypeId} {s : Slot} (h : Blk w g t (slc s)) (hs : Sok s) : Rd w (.slice (some ⟨g, 50, none⟩) 32 32) s.chk := rd_range (h.chk hs) hs.chk (by decide)
/-- A slot of a table in a block. -/
theorem Blk.slot {w : World} {g : Nat} {t : TypeId} {T : List Slot} (h : Blk w g t (tbc T)) (hT : Tok T) {i : Nat} (hi : i < 8) : w.rangeAt g (i * 82) (slc (at_ T i)) := range_part h (i * 82) _ fun j v hv => by
  by_cases hj : j < 82
  · rw [tbc_get hT hi j hj]; exact hv
  · rw [List.getElem?_eq_none (by rw [slc_len (hT.at_ hi)]; omega)] at hv; cases hv
theorem Blk.usedAt {w : World} {g : Nat} {t : TypeId} {T : List Slot} (h : Blk w g t (tbc T)) (hT : Tok T) {i : Nat} (hi : i < 8) : w.cell? ⟨g, i * 82, none⟩ = some (.bool (at_ T i).used) := h.slot hT hi 0 _ rfl
theorem infoSl : (Tryd.prog.info? 28).map (·.size) = some 82 := by kernel_rfl
theorem infoTb : (Tryd.prog.info? 30).map (·.size) = some 656 := by kernel_rfl
theorem infoTr : (Tryd.prog.info? 34).map (·.size) = some 656 := by kernel_rfl
theorem zeroSl (w : World) : (zeroValue 28).run Tryd.prog w = .ok (.agg (slc none_).toArray) w := by kernel_rfl
theorem zeroTb (w : World) : (zeroValue 30).run Tryd.prog w = .ok (.agg (tbc zero).toArray) w := by kernel_rfl
theorem zeroTr (w : World) : (zeroValue 34).run Tryd.prog w = .ok (.agg (tbc zero).toArray) w := by kernel_rfl
theorem builtSl : Tryd.prog.built 28 [] = some (slc none_).toArray := by kernel_rfl
theorem builtTb : Tryd.prog.built 30 [] = some (tbc zero).toArray := by kernel_rfl
theorem builtTr : Tryd.prog.built 34 [] = some (tbc zero).toArray := by kernel_rfl
/-- '==' on slots. -/
theorem slot_eq_iff (a b : Slot) : a = b ↔ a.used = b.used ∧ a.turns = b.turns ∧ a.salt = b.salt ∧ a.sld = b.sld ∧ a.chk = b.chk := by
  cases a; cases b; simp only [Slot.mk.injEq]
theorem part_row {P : Program} (w : World) (e : TypeId) (n o : Nat) (el : TypeId) (hu : P.underlying e = some (.array n el)) (hs : ∀ w, (sizeOf e).run P w = .ok n w) (cs : List Value) (l : List Nat) (hl : l.length = n) (h : ∀ j v, (row8 l)[j]? = some v → cs[o + j]? = some v) :
    (part e cs.toArray o).run P w = .ok (.agg (row8 l).toArray) w := by
  simp only [part, isAgg, Sem.run_bind, run_underlying hu, Sem.run_pure, Result.andThen_ok, hs, if_true]
  congr 2
  rw [List.extract_toArray]
  congr 1
  rw [List.extract_eq_take_drop]
  apply List.ext_getElem?
  intro j
  by_cases hj : j < n
  · rw [List.getElem?_take_of_lt (by omega), List.getElem?_drop, row8_val l j (by omega), h j _ (row8_val l j (by omega))]
  · rw [List.getElem?_eq_none (by rw [List.length_take]; omega), List.getElem?_eq_none (by rw [row8_len]; omega)]
theorem equal_bytes {P : Program} (w : World) (d : Nat) (t e : TypeId) (n : Nat) (ht : P.underlying t = some (.array n e)) (he : P.underlying e = some (.int .u8)) (hsz : ∀ w, (sizeOf e).run P w = .ok 1 w) (x y : List Nat) (hx : Bytes n x) (hy : Bytes n y) :
    (Op.equalIn (d + 2) t (.agg (row8 x).toArray) (.agg (row8 y).toArray)).run P w = .ok (decide (x = y)) w := by
  have mx := gb_of_mem hx.2
  have my := gb_of_mem hy.2
  rw [row8_cells mx, row8_cells my, run_equalIn_bytes w d t e n ht he hsz _ _ (by rw [List.length_map]; exact hx.1) (by rw [List.length_map]; exact hy.1)]
  congr 1
  by_cases h : x = y
  · subst h; simp
  · have : ¬ x.map UInt8.ofNat = y.map UInt8.ofNat := fun e => h (map_ofNat_inj x y mx my e)
    simp [h, this]
end Go.Proofs.YtbepchikngoknaaDoor
/- '==' on key slots and on tables of them. Own work. -/
namespace Go.Proofs.YtbepchikngoknaaDoor
open Go.ChangeShapes Go.WideShapes Go.ChangeAt Go.RowKit
open SL
theorem part_cell {P : Program} (w : World) (e : TypeId) (k : IntKind) (hu : P.underlying e = some .bool ∨ P.underlying e = some (.int k)) (cs : List Value) (o : Nat) (v : Value) (h : cs[o]? = some v) :
    (part e cs.toArray o).run P w = .ok v w := by
  rcases hu with hu | hu
  · simp [part, isAgg, run_underlying hu, h]
  · simp [part, isAgg, run_underlying hu, h]
theorem size1Sl (w : World) : (sizeOf 5).run Tryd.prog w = .ok 1 w := by kernel_rfl
theorem size16Sl (w : World) : (sizeOf 23).run Tryd.prog w = .ok 16 w := by kernel_rfl
theorem sizeKSl (w : World) : (sizeOf 25).run Tryd.prog w = .ok 32 w := by kernel_rfl
theorem sizeSSl (w : World) : (sizeOf 26).run Tryd.prog w = .ok 32 w := by kernel_rfl
theorem sizeSl (w : World) : (sizeOf 28).run Tryd.prog w = .ok 82 w := by kernel_rfl
/-- One field further. -/
theorem eqFields_step {P : Program} (w : World) (d : Nat) (xs ys : Array Value) (f : Field) (fs : List Field) (t o : Nat) (hf : f.name ≠ "_" ∧ f.type = t ∧ f.offset = o) (a b : Value) (r : Bool) (ha : (part t xs o).run P w = .ok a w) (hb : (part t ys o).run P w = .ok b w) (hr : (Op.equalIn d t a b).run P w = .ok r w) :
    (Op.eqFields d xs ys (f :: fs)).run P w = if r then (Op.eqFields d xs ys fs).run P w else .ok false w := by
  obtain ⟨hn, rfl, rfl⟩ := hf
  simp only [Op.eqFields, if_pos hn, Sem.run_bind, ha, hb, hr, Result.andThen_ok]
  cases r <;> simp
theorem fieldsSl : ∃ f0 f1 f2 f3 f4 : Field, (Tryd.prog.fieldsOf 28).toList = [f0, f1, f2, f3, f4] ∧ (f0.name ≠ "_" ∧ f0.type = 4 ∧ f0.offset = 0) ∧ (f1.name ≠ "_" ∧ f1.type = 22 ∧ f1.offset = 1) ∧ (f2.name ≠ "_" ∧ f2.type = 23 ∧ f2.offset = 2) ∧ (f3.name ≠ "_" ∧ f3.type = 25 ∧ f3.offset = 18) ∧ (f4.name ≠ "_" ∧ f4.type = 26 ∧ f4.offset = 50) := by
  simp only [Program.fieldsOf, Tryd.underlying28]
  exact ⟨_, _, _, _, _, rfl, ⟨by simp, rfl, rfl⟩, ⟨by simp, rfl, rfl⟩, ⟨by simp, rfl, rfl⟩, ⟨by simp, rfl, rfl⟩, ⟨by simp, rfl, rfl⟩⟩
set_option maxRecDepth 100000 in
theorem equal_slot (w : World) (d : Nat) {a b : Slot} (ha : Sok a) (hb : Sok b) :
    (Op.equalIn (d + 3) 28 (.agg (slc a).toArray) (.agg (slc b).toArray)).run Tryd.prog w = .ok (decide (a = b)) w := by
  have p0 : ∀ s : Slot, (part 4 (slc s).toArray 0).run Tryd.prog w = .ok (.bool s.used) w := fun s => part_cell w _ .u8 (.inl Tryd.underlying4) _ 0 _ rfl
  have p1 : ∀ s : Slot, (part 22 (slc s).toArray 1).run Tryd.prog w = .ok (.int .u16 (s.turns : Int)) w := fun s => part_cell w _ .u16 (.inr Tryd.underlying22) _ 1 _ rfl
  have p2 : ∀ {s : Slot}, Sok s → (part 23 (slc s).toArray 2).run Tryd.prog w = .ok (.agg (row8 s.salt).toArray) w := fun h => part_row w _ 16 2 _ Tryd.underlying23 size16Sl _ _ h.salt.1 (slc_salt _)
  have p3 : ∀ {s : Slot}, Sok s → (part 25 (slc s).toArray 18).run Tryd.prog w = .ok (.agg (row8 s.sld).toArray) w := fun h => part_row w _ 32 18 _ Tryd.underlying25 sizeKSl _ _ h.sld.1 (slc_sld h)
  have p4 : ∀ {s : Slot}, Sok s → (part 26 (slc s).toArray 50).run Tryd.prog w = .ok (.agg (row8 s.chk).toArray) w := fun h => part_row w _ 32 50 _ Tryd.underlying26 sizeSSl _ _ h.chk.1 (slc_chk h)
  have q2 := equal_bytes w d 23 5 16 Tryd.underlying23 Tryd.underlying5 size1Sl _ _ ha.salt hb.salt
  have q3 := equal_bytes w d 25 5 32 Tryd.underlying25 Tryd.underlying5 size1Sl _ _ ha.sld hb.sld
  have q4 := equal_bytes w d 26 5 32 Tryd.underlying26 Tryd.underlying5 size1Sl _ _ ha.chk hb.chk
  have q0 := run_equalIn_bool' (P := Tryd.prog) w (d + 1) 4 a.used b.used Tryd.underlying4
  have q1 := run_equalIn_int (P := Tryd.prog) w (d + 1) 22 .u16 .u16 (a.turns : Int) (b.turns : Int) Tryd.underlying22
  rw [run_equalIn_agg w (d + 2) 28 _ _ (by kernel_rfl) (by kernel_rfl)]
  obtain ⟨r, hr⟩ : ∃ r, r = decide (a = b) := ⟨_, rfl⟩
  rw [← hr]
  obtain ⟨f0, f1, f2, f3, f4, hL, h0, h1, h2, h3, h4⟩ := fieldsSl
  rw [hL, eqFields_step w (d + 2) _ _ f0 _ _ _ h0 _ _ _ (p0 a) (p0 b) q0, eqFields_step w (d + 2) _ _ f1 _ _ _ h1 _ _ _ (p1 a) (p1 b) q1, eqFields_step w (d + 2) _ _ f2 _ _ _ h2 _ _ _ (p2 ha) (p2 hb) q2, eqFields_step w (d + 2) _ _ f3 _ _ _ h3 _ _ _ (p3 ha) (p3 hb) q3, eqFields_step w (d + 2) _ _ f4 _ _ _ h4 _ _ _ (p4 ha) (p4 hb) q4]
  simp only [Op.eqFields, Sem.run_pure]
  have ht : (a.turns : Int) = (b.turns : Int) ↔ a.turns = b.turns := by omega
  clear p0 p1 p2 p3 p4 q0 q1 q2 q3 q4 ha hb
  by_cases e0 : a.used = b.used
  · by_cases e1 : a.turns = b.turns
    · by_cases e2 : a.salt = b.salt
      · by_cases e3 : a.sld = b.sld
        · by_cases e4 : a.chk = b.chk
          · rw [hr, decide_eq_true ((slot_eq_iff a b).2 ⟨e0, e1, e2, e3, e4⟩)]; simp [e0, e1, e2, e3, e4]
          · rw [hr, decide_eq_false fun e => e4 (congrArg Slot.chk e)]; simp [e0, e1, e2, e3, e4]
        · rw [hr, decide_eq_false fun e => e3 (congrArg Slot.sld e)]; simp [e0, e1, e2, e3]
      · rw [hr, decide_eq_false fun e => e2 (congrArg Slot.salt e)]; simp [e0, e1, e2]
    · rw [hr, decide_eq_false fun e => e1 (congrArg Slot.turns e)]; simp [e0, ht, e1]
  · rw [hr, decide_eq_false fun e => e0 (congrArg Slot.used e)]; simp [e0]
/-- '==' on slots as the program does it. -/
theorem run_eql_slot {a b : Slot} (ha : Sok a) (hb : Sok b) (w : World) : (binOp .eql 28 (.agg (slc a).toArray) (.agg (slc b).toArray)).run Tryd.prog w = .ok (.bool (decide (a = b))) w := by
  rw [run_eql_struct, equal_slot w 9997 ha hb]; rfl
theorem eqTypeSl : Tryd.prog.eqGuardType Tryd.prog.depth 28 = false := by kernel_rfl
theorem eqTypeTb : Tryd.prog.eqGuardType Tryd.prog.depth 30 = false := by kernel_rfl
theorem eqTypeTr : Tryd.prog.eqGuardType Tryd.prog.depth 34 = false := by kernel_rfl
theorem part_slot {P : Program} (w : World) (e : TypeId) (fs : Array Field) (hu : P.underlying e = some (.struct fs)) (hs : ∀ w, (sizeOf e).run P w = .ok 82 w) {T : List Slot} (hT : Tok T) {i : Nat} (hi : i < 8) :
    (part e (tbc T).toArray (i * 82)).run P w = .ok (.agg (slc (at_ T i)).toArray) w := by
  simp only [part, isAgg, Sem.run_bind, run_underlying hu, Sem.run_pure, Result.andThen_ok, hs, if_true]
  congr 2
  rw [List.extract_toArray]
  congr 1
  rw [List.extract_eq_take_drop, show i * 82 + 82 - i * 82 = 82 by omega, tbc_drop hT.ok i (by rw [hT.len]; exact hi)]
theorem table_eq_iff {T U : List Slot} (hT : Tok T) (hU : Tok U) : T = U ↔ ∀ i, i < 8 → at_ T i = at_ U i := by
  constructor
  · intro h i _; rw [h]
  · intro h
    apply List.ext_getElem?
    intro i
    by_cases hi : i < 8
    · rw [at_eq (by rw [hT.len]; exact hi), at_eq (by rw [hU.len]; exact hi), h i hi]
    · rw [List.getElem?_eq_none (by rw [hT.len]; omega), List.getElem?_eq_none (by rw [hU.len]; omega)]
theorem equal_table (t : TypeId) (ht : Tryd.prog.underlying t = some (.array 8 28)) {T U : List Slot} (hT : Tok T) (hU : Tok U) (w : World) :
    (Op.equalIn 10000 t (.agg (tbc T).toArray) (.agg (tbc U).toArray)).run Tryd.prog w = .ok (decide (T = U)) w := by
  obtain ⟨fs, hfs⟩ : ∃ fs, Tryd.prog.underlying 28 = some (.struct fs) := ⟨_, Tryd.underlying28⟩
  rw [Op.equalIn]
  simp only [Sem.run_bind, run_underlying ht, Result.andThen_ok, sizeSl, Std.Legacy.Range.forIn_eq_forIn_range', Std.Legacy.Range.size, Nat.sub_zero, Nat.add_sub_cancel, Nat.div_one]
  have hd : decide (T = U) = (List.range' 0 8 1).all fun i => decide (at_ T i = at_ U i) := by
    rw [Bool.eq_iff_iff, decide_eq_true_iff, table_eq_iff hT hU, List.all_eq_true]
    constructor
    · intro h i hi
      have := (List.mem_range'_1.1 hi).2
      exact decide_eq_true (h i (by omega))
    · intro h i hi
      exact of_decide_eq_true (h i (List.mem_range'_1.2 ⟨Nat.zero_le _, by omega⟩))
  rw [hd]
  have hl : ∀ i ∈ List.range' 0 8 1, i < 8 := fun i hi => by simpa using (List.mem_range'_1.1 hi).2
  generalize List.range' 0 8 1 = l at hl ⊢
  clear hd
  induction l with
  | nil => simp
  | cons i l ih =>
    have hi : i < 8 := hl i (by simp)
    simp only [List.forIn_cons, Sem.run_bind, part_slot w _ fs hfs sizeSl hT hi, part_slot w _ fs hfs sizeSl hU hi, equal_slot w 9996 (hT.at_ hi) (hU.at_ hi), Result.andThen_ok, List.all_cons]
    cases hb : decide (at_ T i = at_ U i)
    · simp
    · simp only [Bool.not_true, Bool.false_eq_true, if_false, Sem.run_pure, Result.andThen_ok, Bool.true_and]
      exact ih fun j hj => hl j (by simp [hj])
theorem run_eql_table (t : TypeId) (ht : Tryd.prog.underlying t = some (.array 8 28)) {T U : List Slot} (hT : Tok T) (hU : Tok U) (w : World) : (binOp .eql t (.agg (tbc T).toArray) (.agg (tbc U).toArray)).run Tryd.prog w = .ok (.bool (decide (T = U))) w := by
  rw [run_eql_struct, equal_table t ht hT hU w]; rfl
theorem run_neq_table (t : TypeId) (ht : Tryd.prog.underlying t = some (.array 8 28)) {T U : List Slot} (hT : Tok T) (hU : Tok U) (w : World) : (binOp .neq t (.agg (tbc T).toArray) (.agg (tbc U).toArray)).run Tryd.prog w = .ok (.bool (!decide (T = U))) w := by
  rw [run_neq_struct, equal_table t ht hT hU w]; rfl
end Go.Proofs.YtbepchikngoknaaDoor
/- Key slots on numbers, and general laws: what both sides need. Own work. -/
namespace Go.Proofs.YtbepchikngoknaaDoor
open Go.ChangeShapes Go.WideShapes Go.ChangeAt Go.RowKit
open SM WM SL
/-- An operation on two values, whatever is told of it. -/
theorem wpList_bin {P : Program} {ops : Array Oper} {rest : List Oper} {o : Oper} {a : Act} {w : World} {Q : Exit → Act → World → Prop} (hgd : o.guard = none) {b : BinOp} {t z : TypeId} {x y : Operand} (ho : o.op = .binOp b t x y z) {u u' : Value} (v : Value) (hx : a.eval x = u) (hy : a.eval y = u')
    (hg : (eqGuard b t x y u u').run P w = .ok () w) (hb : (binOp b t u u').run P w = .ok v w) (h : wpList P ops Q rest (a.put o.dst v) w) : wpList P ops Q (o :: rest) a w := by
  refine wpList_plain hgd fun _ hK => ?_
  unfold Oper.wp
  rw [ex_binOp ho hx hy hg hb]
  exact hK _ _ h
theorem may_used {s : Slot} (h : s.used = true) : may s = decide (1 ≤ s.turns ∧ s.turns ≤ 4096) := by unfold may; rw [if_pos h]
theorem may_not {s : Slot} (h : s.used = false) : may s = decide (s = none_) := by unfold may; rw [if_neg (by rw [h]; decide)]
def usedTo (T : List Slot) (k : Nat) : Nat := (T.take k).countP (·.used)
theorem usedTo_all {T : List Slot} (h : Tok T) : usedTo T 8 = used T := by unfold usedTo used; rw [List.take_of_length_le (by rw [h.len]; exact Nat.le_refl _)]
theorem usedTo_succ {T : List Slot} (h : Tok T) {k : Nat} (hk : k < 8) : usedTo T (k + 1) = usedTo T k + (if (at_ T k).used then 1 else 0) := by
  unfold usedTo
  have e := at_eq (T := T) (i := k) (by rw [h.len]; exact hk)
  rw [List.take_add_one, e, List.countP_append]
  simp [List.countP_cons]
theorem usedTo_le (T : List Slot) (k : Nat) : usedTo T k ≤ k := Nat.le_trans List.countP_le_length (by rw [List.length_take]; omega)
theorem kerr_none {p salt : List Nat} {t : Nat} (hp : p.length ≤ 512) (hs : Bytes 16 salt) (h1 : 1 ≤ t) (h2 : t ≤ 4096) : kerr p salt (t : Int) 32 = 0 ∧ kres p salt (t : Int) 32 = key p salt t := by
  have e : kerr p salt (t : Int) 32 = 0 := by
    unfold kerr
    rw [if_neg (by rw [hs.1]; omega), if_neg (by omega)]
  refine ⟨e, ?_⟩
  unfold kres
  rw [if_pos e]; rfl
theorem zeroK2 (w : World) : (zeroValue 25).run Tryd.prog w = .ok (.agg (row8 (List.replicate 32 0)).toArray) w := by kernel_rfl
theorem infoK2 : (Tryd.prog.info? 25).map (·.size) = some 32 := by kernel_rfl
theorem info162 : (Tryd.prog.info? 23).map (·.size) = some 16 := by kernel_rfl
/-- Results that are a row of cells, out of the variable in which it stands, and two slots. -/
theorem results_mid3 {P : Program} {fn : Func} {p t u : Tmp} {ty : TypeId} (h : fn.results = #[.cell p ty, .tmp t, .tmp u]) (tmps : Array Value) (w : World) (b : Nat) (cs : List Value) (d : TypeDesc)
    (hp : tmps.getD p undef = .pointer (some ⟨b, 0, none⟩)) (hr : w.rangeAt b 0 cs) (hu : P.underlying ty = some d) (hd : d.isRow = true) (hi : (P.info? ty).map (·.size) = some cs.length) :
    (results fn tmps).run P w = .ok (.tuple #[.agg cs.toArray, tmps.getD t undef, tmps.getD u undef]) w := by
  have hp' : tmps[p]?.getD undef = .pointer (some ⟨b, 0, none⟩) := by simpa using hp
  simp [results, h, hp', asAddr, run_loadVar_mid w b 0 ty cs d hr hu hd hi]
theorem opensAt_no {p : List Nat} {s : Slot} (h : s.used = false ∨ may s = false) : opensAt p s = false := by
  unfold opensAt
  rcases h with h | h <;> simp [h]
theorem opensAt_eq {p : List Nat} {s : Slot} (h1 : s.used = true) (h2 : may s = true) : opensAt p s = decide (werr (key p s.salt s.turns) s.sld s.chk = 0) := by
  unfold opensAt; simp [h1, h2]
theorem may_turns {s : Slot} (h1 : s.used = true) (h2 : may s = true) : 1 ≤ s.turns ∧ s.turns ≤ 4096 := by
  rw [may_used h1] at h2; exact of_decide_eq_true h2
theorem werr_or (K S C : List Nat) : werr K S C = 0 ∨ werr K S C = 30 := by
  unfold werr; split
  · exact .inl rfl
  · exact .inr rfl
theorem o_long {T : List Slot} {p : List Nat} (h : 512 < p.length) : oerr T p = 5 ∧ oidx T p = 0 ∧ okey T p = List.replicate 32 0 := by
  have e : oerr T p = 5 := by unfold oerr; rw [if_pos h]
  refine ⟨e, by unfold oidx; rw [if_pos h], ?_⟩
  unfold okey; rw [e, if_neg (by decide)]
theorem o_none {T : List Slot} (hT : Tok T) {p : List Nat} (h : p.length ≤ 512) (hb : ∀ j, j < 8 → opensAt p (at_ T j) = false) : oerr T p = 30 ∧ oidx T p = 0 ∧ okey T p = List.replicate 32 0 := by
  have hw := which_none (T := T) (p := p) fun j hj => hb j (by rw [hT.len] at hj; exact hj)
  have e : oerr T p = 30 := by unfold oerr; rw [if_neg (by omega), hw]; rfl
  refine ⟨e, by unfold oidx; rw [if_neg (by omega), hw]; rfl, ?_⟩
  unfold okey; rw [e, if_neg (by decide)]
theorem o_some {T : List Slot} (hT : Tok T) {p : List Nat} (h : p.length ≤ 512) {i : Nat} (hi : i < 8) (ho : opensAt p (at_ T i) = true) (hb : ∀ j, j < i → opensAt p (at_ T j) = false) :
    oerr T p = 0 ∧ oidx T p = i ∧ okey T p = wopen (key p (at_ T i).salt (at_ T i).turns) (at_ T i).sld (at_ T i).chk := by
  have hw := which_some (T := T) (p := p) (by rw [hT.len]; exact hi) ho hb
  have e : oerr T p = 0 := by unfold oerr; rw [if_neg (by omega), hw]; rfl
  have e2 : oidx T p = i := by unfold oidx; rw [if_neg (by omega), hw]; rfl
  refine ⟨e, e2, ?_⟩
  unfold okey; rw [if_pos e, e2]
theorem splice_sld {s : Slot} (h : Sok s) {K : List Nat} (hK : Bytes 32 K) : splice (slc s) 18 (row8 K) = slc { s with sld := K } := by
  have e : (row8 s.salt).length = 16 := by rw [row8_len]; exact h.salt.1
  have e2 : (row8 s.sld).length = 32 := by rw [row8_len]; exact h.sld.1
  have e3 : (row8 K).length = 32 := by rw [row8_len]; exact hK.1
  unfold splice slc
  rw [e3]
  show (_ :: _ :: List.take 16 (_ ++ (_ ++ _))) ++ (_ ++ List.drop (16 + 32) (_ ++ (_ ++ _))) = _
  rw [List.take_left' e, ← List.drop_drop, List.drop_left' e, List.drop_left' e2]
  rfl
theorem splice_chk {s : Slot} (h : Sok s) {K : List Nat} (hK : Bytes 32 K) : splice (slc s) 50 (row8 K) = slc { s with chk := K } := by
  have e : (row8 s.salt).length = 16 := by rw [row8_len]; exact h.salt.1
  have e2 : (row8 s.sld).length = 32 := by rw [row8_len]; exact h.sld.1
  have e3 : (row8 s.chk).length = 32 := by rw [row8_len]; exact h.chk.1
  have e4 : (row8 K).length = 32 := by rw [row8_len]; exact hK.1
  unfold splice slc
  rw [e4]
  show (_ :: _ :: List.take (16 + 32) (_ ++ (_ ++ _))) ++ (_ ++ List.drop (16 + (32 + 32)) (_ ++ (_ ++ _))) = _
  rw [List.take_append, e, List.take_of_length_le (by rw [e]; omega), show 16 + 32 - 16 = 32 by omega, List.take_left' e2, ← List.drop_drop, List.drop_left' e, ← List.drop_drop, List.drop_left' e2, List.drop_eq_nil_of_le (by rw [e3]; exact Nat.le_refl _)]
  simp
theorem which_lt {T : List Slot} {p : List Nat} {i : Nat} (h : which T p = some i) : i < T.length := by
  unfold which at h
  rw [List.findIdx?_eq_some_iff_getElem] at h
  exact h.1
theorem oidx_lt {T : List Slot} (hT : Tok T) (p : List Nat) : oidx T p < 8 := by
  unfold oidx
  split
  · decide
  · cases h : which T p with
    | none => decide
    | some i => have := which_lt h; rw [hT.len] at this; exact this
theorem okey_bytes {T : List Slot} (hT : Tok T) (p : List Nat) : Bytes 32 (okey T p) := by
  unfold okey
  split
  · exact wopen_bytes _ (hT.at_ (oidx_lt hT p)).sld _
  · exact bytes_zero 32
theorem oerr_cases (T : List Slot) (p : List Nat) : oerr T p = 0 ∨ oerr T p = 5 ∨ oerr T p = 30 := by
  unfold oerr
  split
  · exact .inr (.inl rfl)
  · split
    · exact .inl rfl
    · exact .inr (.inr rfl)
theorem comes_none {T : List Slot} {p : List Nat} {t : Int} (h : comes T p t = 0) : p.length ≤ 512 ∧ 1 ≤ t ∧ t ≤ 4096 := by
  unfold comes at h
  split at h
  · cases h
  · split at h
    · cases h
    · omega
theorem comes_cases (T : List Slot) (p : List Nat) (t : Int) : comes T p t = 0 ∨ comes T p t = 5 ∨ comes T p t = 2 ∨ comes T p t = 23 := by
  unfold comes
  split
  · exact .inr (.inl rfl)
  · split
    · exact .inr (.inr (.inl rfl))
    · split
      · exact .inr (.inr (.inr rfl))
      · exact .inl rfl
theorem used_le (T : List Slot) : used T ≤ T.length := List.countP_le_length
theorem put_take {T : List Slot} (h : Tok T) {k : Nat} (hk : k < 8) : put (T.take (k + 1)) = put (T.take k) ++ lay (at_ T k) := by
  rw [List.take_add_one, at_eq (by rw [h.len]; exact hk), put_app]
  show _ ++ (lay (at_ T k) ++ put []) = _
  rw [put_nil, List.append_nil]
instance (b : List Nat) : Decidable (isPut b) := by unfold isPut; exact inferInstance
/-- What is read of bytes, and the error. -/
def gotT (b : List Nat) : List Slot := if isPut b then reads b else zero
def gerr (b : List Nat) : Int := if isPut b then 0 else 4
theorem got_not {b : List Nat} (h : ¬ isPut b) : gotT b = zero ∧ gerr b = 4 := ⟨if_neg h, if_neg h⟩
theorem got_is {b : List Nat} (h : isPut b) : gotT b = reads b ∧ gerr b = 0 := ⟨if_pos h, if_pos h⟩
end Go.Proofs.YtbepchikngoknaaDoor

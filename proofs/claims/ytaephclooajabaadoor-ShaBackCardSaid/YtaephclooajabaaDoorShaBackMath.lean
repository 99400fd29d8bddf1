/- A sum's digits are read as it was, and what is read has just these digits: on numbers. Own work. -/
import Derived.Test.YtaephclooajabaaDoorShaLaws
namespace Go.Proofs.YtaephclooajabaaDoor
open Go.ChangeShapes Go.WideShapes Go.ChangeAt Go.RowKit
open SM
theorem gb_hex : ∀ (l : List Nat) (j : Nat), j < l.length → gb (hex l) (2 * j) = hd (gb l j / 16) ∧ gb (hex l) (2 * j + 1) = hd (gb l j % 16)
  | [], _, h => by simp at h
  | x :: r, 0, _ => ⟨rfl, rfl⟩
  | x :: r, j + 1, h => by
    have ih := gb_hex r j (by simp at h; omega)
    have e : ∀ k, gb (hex (x :: r)) (k + 2) = gb (hex r) k := fun k => rfl
    rw [show 2 * (j + 1) = 2 * j + 2 by omega, e, show 2 * j + 2 + 1 = (2 * j + 1) + 2 by omega, e]
    exact ih
theorem hex_byte (l : List Nat) (hl : ∀ k, gb l k < 256) (k : Nat) : gb (hex l) k < 256 := by
  by_cases h : k < 2 * l.length
  · have h1 := gb_hex l (k / 2) (by omega)
    have h2 := hl (k / 2)
    by_cases e : k % 2 = 0
    · rw [show 2 * (k / 2) = k by omega] at h1
      rw [h1.1]; exact hd_lt (by omega)
    · rw [show 2 * (k / 2) + 1 = k by omega] at h1
      rw [h1.2]; exact hd_lt (by omega)
  · unfold gb
    rw [List.getD_eq_getElem?_getD, List.getElem?_eq_none (by rw [hex_len]; omega)]
    show 0 < 256; omega
theorem sb_bstr (l : List Nat) (hl : ∀ k, gb l k < 256) : sb (bstr l) = l := by
  unfold sb bstr strOfNums
  apply List.ext_getElem
  · simp
  · intro i h1 h2
    have := hl i
    unfold gb at this
    rw [List.getD_eq_getElem?_getD, List.getElem?_eq_getElem h2] at this
    simp at this ⊢
    omega
theorem hex_digits (l : List Nat) (hl : Bytes 32 l) : Digits64 (hex l) := by
  refine ⟨by rw [hex_len, hl.1], fun j hj => ?_⟩
  have h1 := gb_hex l j (by rw [hl.1]; exact hj)
  have h2 := hl.2 j
  unfold okd
  rw [h1.1, h1.2, dg_hd _ (by omega), dg_hd _ (by omega)]
  omega
theorem parK_hex (l : List Nat) (hl : Bytes 32 l) : parK (hex l) 32 = l := by
  apply bytes_ext (n := 32) (parK_len _ _) hl.1
  intro k hk
  unfold parK
  rw [gb_map, if_pos hk, if_pos hk]
  have h1 := gb_hex l k (by rw [hl.1]; exact hk)
  have h2 := hl.2 k
  unfold pb
  rw [h1.1, h1.2, dg_hd _ (by omega), dg_hd _ (by omega)]
  omega
theorem told_hex (l : List Nat) (hl : Bytes 32 l) : told (sb (bstr (hex l))) = (l, 0) := by
  rw [sb_bstr _ (hex_byte l hl.2)]
  unfold told
  rw [if_pos (hex_digits l hl), parK_hex l hl]
theorem hd_dg (c : Nat) (h : 0 ≤ dg c) : hd (dg c).toNat = c := by
  unfold dg at h ⊢
  unfold hd
  by_cases h1 : 48 ≤ c ∧ c ≤ 57
  · rw [if_pos h1, if_pos (by omega)]; omega
  · rw [if_neg h1] at h ⊢
    by_cases h2 : 97 ≤ c ∧ c ≤ 102
    · rw [if_pos h2, if_neg (by omega)]; omega
    · rw [if_neg h2] at h; omega
theorem hex_parK (l : List Nat) (h : Digits64 l) : hex (parK l 32) = l := by
  have hp := parK_bytes l h
  apply bytes_ext (n := 64) (by rw [hex_len, parK_len]) h.1
  intro k hk
  have h1 := gb_hex (parK l 32) (k / 2) (by rw [parK_len]; omega)
  have hg : gb (parK l 32) (k / 2) = pb l (k / 2) := by
    unfold parK; rw [gb_map, if_pos (by omega), if_pos (by omega)]
  rw [hg] at h1
  have hd := h.2 (k / 2) (by omega)
  have d1 := dg_le (gb l (2 * (k / 2)))
  have d2 := dg_le (gb l (2 * (k / 2) + 1))
  unfold okd at hd
  have e1 : pb l (k / 2) / 16 = (dg (gb l (2 * (k / 2)))).toNat := by unfold pb; omega
  have e2 : pb l (k / 2) % 16 = (dg (gb l (2 * (k / 2) + 1))).toNat := by unfold pb; omega
  rw [e1, e2, hd_dg _ hd.1, hd_dg _ hd.2] at h1
  by_cases e : k % 2 = 0
  · rw [show 2 * (k / 2) = k by omega] at h1; exact h1.1
  · rw [show 2 * (k / 2) + 1 = k by omega] at h1; exact h1.2
theorem bstr_hex (s : ByteArray) (h : Digits64 (sb s)) : bstr (hex (parK (sb s) 32)) = s := by
  rw [hex_parK _ h, bstr_sb]
/-- A row is loaded by value, in an operation behind a guard that lets it be done. -/
theorem wpList_load_wanted {P : Program} {ops : Array Oper} {rest : List Oper} {op : Oper} {a : Act} {w : World} {Q : Exit → Act → World → Prop} (hw : Region.wanted op (yielded ops a.tmps) = true) (ty : TypeId) (x : Operand) (ho : op.op = .load ty x)
    (b o : Nat) (hx : a.eval x = .pointer (some ⟨b, o, none⟩)) (cs : List Value) (d : TypeDesc) (hc : w.rangeAt b o cs)
    (hu : P.underlying ty = some d) (hd : d.isRow = true) (hi : (P.info? ty).map (·.size) = some cs.length)
    (h : wpList P ops Q rest (a.put op.dst (.agg cs.toArray)) w) : wpList P ops Q (op :: rest) a w :=
  wpList_step fun K hK => by rw [if_pos hw]; exact wp_load_mid ty x ho b o hx cs d hc hu hd hi (hK _ _ h)
end Go.Proofs.YtaephclooajabaaDoor

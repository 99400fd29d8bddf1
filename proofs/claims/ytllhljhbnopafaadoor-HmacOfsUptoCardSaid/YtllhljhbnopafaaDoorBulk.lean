/- What the second form's bound gives of each argument. Own work. -/
import Derived.Test.YtllhljhbnopafaaDoorArgs
import Derived.Test.YtllhljhbnopafaaDoorShaParts
import Derived.Deep.Slices
namespace Go.Proofs.YtllhljhbnopafaaDoor
open Go.ChangeShapes Go.WideShapes Go.ChangeAt Go.RowKit
namespace bulks
theorem bound {H : Type} {l : List (DataW H)} (h : Rows.uptoSmall H l = true) : Rows.uptoBulkAll l ≤ 1048576 := of_decide_eq_true h
theorem mem_le {H : Type} {d : DataW H} : ∀ {l : List (DataW H)}, d ∈ l → Rows.uptoBulk d ≤ Rows.uptoBulkAll l
  | x :: r, h => by
    simp only [Rows.uptoBulkAll]
    rcases List.mem_cons.1 h with e | e
    · subst e; omega
    · have := mem_le e; omega
theorem all_app {H : Type} : ∀ (l r : List (DataW H)), Rows.uptoBulkAll (l ++ r) = Rows.uptoBulkAll l + Rows.uptoBulkAll r
  | [], r => by simp [Rows.uptoBulkAll]
  | x :: l, r => by rw [List.cons_append]; simp only [Rows.uptoBulkAll, all_app l r]; omega
theorem lits_le {H : Type} (k : IntKind) : ∀ (zs : List Int), Rows.uptoBulkAll (lits (H := H) k zs) = zs.length
  | [] => rfl
  | z :: r => by
    have := lits_le (H := H) k r
    unfold lits at this ⊢
    rw [List.map_cons]
    simp only [Rows.uptoBulkAll, Rows.uptoBulk, this, List.length_cons]
    omega
theorem str_le {H : Type} {s : ByteArray} {l : List (DataW H)} (hb : Rows.uptoBulkAll l ≤ 1048576) (hm : DataW.lit (.string s.data.toList) ∈ l) : s.size ≤ 1048576 := by
  have h := mem_le hm
  simp only [Rows.uptoBulk] at h
  have e : s.data.toList.length = s.size := by rw [Array.length_toList]; rfl
  omega
/-- One slice of bytes, of a bulk that is bounded. -/
theorem bytes_of {H : Type} {enc : TypeId × Value → H} {W : World} {base fuel : Nat} {x : Value} {d : DataW H} {p : List MemPlace} (hf : DataW.trod enc Tryd.prog W base (fun _ => true) true fuel 22 [x] = some (d, p)) (hb : Rows.uptoBulk d ≤ 1048576) :
    ∃ l, Rd W x l ∧ l.length + 1 ≤ Rows.uptoBulk d := by
  rcases open_ints Tryd.underlying22 Tryd.underlying5 cellsB hf with ⟨hcs, hx⟩ | ⟨a, len, cap, zs, hcs, _, hl, _, hz, hx, hcell, hwz⟩
  · injection hcs with e _
    subst e
    simp only [Prod.mk.injEq] at hx
    obtain ⟨rfl, _⟩ := hx
    exact ⟨[], Rd.none_ W, by simp [Rows.uptoBulk]⟩
  · injection hcs with e _
    subst e
    simp only [Prod.mk.injEq] at hx
    obtain ⟨rfl, _⟩ := hx
    simp only [if_true] at hz
    simp only [Rows.uptoBulk, lits_le, List.length_take] at hb ⊢
    have hlen : ((zs.take len).map Int.toNat).length = len := by rw [List.length_map, List.length_take]; omega
    have hnum : ∀ k, k < len → ∃ n : Nat, n < 256 ∧ zs.getD k 0 = (n : Int) ∧ gb ((zs.take len).map Int.toNat) k = n := fun k hk => by
      have hkz : k < zs.length := by omega
      obtain ⟨n, hn, e⟩ := u8_of (hwz zs[k] (List.getElem_mem hkz))
      refine ⟨n, hn, by rw [List.getD_eq_getElem?_getD, List.getElem?_eq_getElem hkz]; exact e, ?_⟩
      unfold gb
      rw [List.getD_eq_getElem?_getD, List.getElem?_map, List.getElem?_take, if_pos hk, List.getElem?_eq_getElem hkz, e]
      rfl
    refine ⟨(zs.take len).map Int.toNat, ⟨fun k => ?_, by rw [hlen]; omega, .inr ⟨a, cap, by rw [hlen], by rw [hlen]; exact hl, fun j hj => ?_⟩⟩, by rw [hlen]; omega⟩
    · by_cases hk : k < len
      · obtain ⟨n, hn, _, e⟩ := hnum k hk
        rw [e]; exact hn
      · unfold gb
        rw [List.getD_eq_getElem?_getD, List.getElem?_eq_none (by rw [hlen]; omega)]
        show 0 < 256; omega
    · obtain ⟨n, _, e, e2⟩ := hnum j (by omega)
      rw [e2, hcell j (by omega), e]
/-- A slice of bytes among the arguments is no longer than their bulk. -/
theorem bytes_le {H : Type} {enc : TypeId × Value → H} {W : World} {base : Nat} {v : Value} {d : DataW H} {p : List MemPlace} {l : List Nat} {ds : List (DataW H)} (hb : Rows.uptoBulkAll ds ≤ 1048576) (hm : d ∈ ds) (h : DataW.Trod enc Tryd.prog W base (fun _ => true) true 22 v d p) (hr : Rd W v l) : l.length ≤ 1048576 := by
  have h1 := mem_le hm
  obtain ⟨ao, cap, rfl, _⟩ := hr.shape
  obtain ⟨fuel, hf⟩ := h
  obtain ⟨l', hr', hl'⟩ := bytes_of (x := .slice ao l.length cap) hf (by omega)
  obtain ⟨ao', cap', e, _⟩ := hr'.shape
  injection e with _ e _
  omega
theorem flat_sum {H : Type} (D : Nat → DataW H) (f : Nat → List Nat) : ∀ n, (∀ j, j < n → (f j).length + 1 ≤ Rows.uptoBulk (D j)) → ((List.range n).map f).flatten.length ≤ Rows.uptoBulkAll ((List.range n).map D)
  | 0, _ => by simp
  | n + 1, h => by
    have ih := flat_sum D f n fun j hj => h j (by omega)
    have h1 := h n (by omega)
    rw [List.range_succ, List.map_append, List.map_append, List.flatten_append, all_app, List.length_append]
    simp only [List.map_cons, List.map_nil, List.flatten_cons, List.flatten_nil, List.append_nil, Rows.uptoBulkAll]
    omega
theorem cellsP : Tryd.prog.cellsOf 22 = 1 := by kernel_rfl
/-- A slice of slices of bytes among the arguments. -/
theorem open_parts {H : Type} {enc : TypeId × Value → H} {W : World} {base b0 : Nat} {r : Reach} {v : Value} {d : DataW H} {p : List MemPlace} {ds : List (DataW H)} (hb : Rows.uptoBulkAll ds ≤ 1048576) (hm : d ∈ ds)
    (hval : Value.okWide Tryd.prog W r b0 23 v) (h : DataW.Trod enc Tryd.prog W base (fun _ => true) true 23 v d p) : ∃ ls, Rds W v ls ∧ ls.flatten.length ≤ 1048576 := by
  have h1 := mem_le hm
  obtain ⟨a0, len, cap, rfl⟩ := okWide_slice Tryd.underlying23 hval
  obtain ⟨fuel, hf⟩ := h
  rcases Deep.open_slice Tryd.underlying23 hf with ⟨hcs, _⟩ | ⟨a, len', cap', m, n, D, Pl, hcs, _, hl, _, hmm, hx, hcell⟩
  · simp [Value.cells] at hcs
    obtain ⟨rfl, rfl, rfl⟩ := hcs
    exact ⟨[], ⟨by simp, .inl ⟨rfl, rfl⟩⟩, by simp⟩
  · simp [Value.cells] at hcs
    obtain ⟨rfl, rfl, rfl⟩ := hcs
    simp only [if_true] at hmm
    simp only [Prod.mk.injEq] at hx
    obtain ⟨rfl, _⟩ := hx
    simp only [Rows.uptoBulk] at h1
    have key : ∀ j, j < len → ∃ l, (∃ x, W.cell? (a.add j) = some x ∧ Rd W x l) ∧ l.length + 1 ≤ Rows.uptoBulk (D j) := fun j hj => by
      obtain ⟨cs, c1, c2⟩ := hcell j (by omega)
      rw [cellsP, Nat.mul_one] at c1
      obtain ⟨_, hlen, _⟩ := World.cells?_some c1
      match cs, hlen with
      | [x], _ =>
        have hD : Rows.uptoBulk (D j) ≤ Rows.uptoBulkAll ((List.range len).map D) := mem_le (List.mem_map.2 ⟨j, by simpa using hj, rfl⟩)
        obtain ⟨l, q1, q2⟩ := bytes_of c2 (by omega)
        exact ⟨l, ⟨x, cell_of_cells?_one c1, q1⟩, q2⟩
    obtain ⟨f, hfk⟩ := Deep.choose_lt key
    have hfl := flat_sum D f len fun j hj => (hfk j hj).2
    have hll : len ≤ 1048576 := by
      have : ∀ n, n ≤ Rows.uptoBulkAll ((List.range n).map D) ∨ len < n := fun n => by
        induction n with
        | zero => exact .inl (Nat.zero_le _)
        | succ n ih =>
          by_cases hn : n < len
          · rcases ih with q | q
            · have := (hfk n hn).2
              rw [List.range_succ, List.map_append, all_app]
              simp only [List.map_cons, List.map_nil, Rows.uptoBulkAll]
              exact .inl (by omega)
            · omega
          · exact .inr (by omega)
      rcases this len with q | q <;> omega
    refine ⟨(List.range len).map f, ⟨by simp; omega, .inr ⟨a, cap, by simp, by simp; exact hl, fun j l hj => ?_⟩⟩, by omega⟩
    rw [List.getElem?_map] at hj
    by_cases hjl : j < len
    · rw [List.getElem?_range hjl] at hj
      obtain rfl : f j = l := by simpa using hj
      exact (hfk j hjl).1
    · rw [List.getElem?_eq_none (by simpa using hjl)] at hj; cases hj
end bulks
end Go.Proofs.YtllhljhbnopafaaDoor

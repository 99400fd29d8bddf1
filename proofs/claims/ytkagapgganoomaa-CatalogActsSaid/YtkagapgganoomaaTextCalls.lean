/- Texts laid in bytes, by package octet and as the document says: contracts. Own work. -/
import Derived.Test.YtkagapgganoomaaMem
namespace Go.Proofs.Ytkagapgganoomaa
open Go.RowKit
/-- append of a text's bytes onto one byte that stands alone. -/
theorem run_app_str (w : World) (ty : TypeId) (base b x : Nat) (s : ByteArray) (ho : Own w base (.slice (some ⟨b, 0, none⟩) 1 1) [x]) (hs : s.size ≤ 255) (hb : base ≤ w.heap.size) :
    ∃ v' w', (Builtin.append_ #[33, 9] ty #[.slice (some ⟨b, 0, none⟩) 1 1, .string s]).run Try.prog w = .ok v' w' ∧ Own w' base v' (x :: sb s) ∧ w.grownBy w' none := by
  obtain ⟨i0, hi, hz0, hz1, hz2⟩ := info_parts infoB
  have hby : ∀ k, gb (x :: sb s) k < 256 := gb_app [x] (sb s) ho.2.1 (sb_byte s)
  have hlen : (x :: sb s).length = 1 + s.size := by rw [List.length_cons, sb_len]; omega
  by_cases h0 : s.size = 0
  · have hsb : sb s = [] := List.eq_nil_of_length_eq_zero (by rw [sb_len]; exact h0)
    have hsrc : Src Try.prog i0.size 9 (.string s) 0 [] w := by
      have h := Src.ofString (P := Try.prog) w Try.underlying9 s
      rw [byteCells_row, hsb, h0] at h
      rw [hz1]; exact h
    have hr := run_append_room_src (P := Try.prog) w 33 9 ty 5 i0 Try.underlying33 hi b 0 1 1 (.string s) 0 [] hsrc (by omega) (fun j hj => by simp at hj) (fun j hj => by simp at hj)
    refine ⟨_, _, hr, ?_, World.grownBy.refl w _⟩
    rw [hsb]; exact ho
  · have hcell : ∀ j, j < 1 → w.cell? ⟨b, j, none⟩ = some (.int .u8 (x : Int)) := fun j hj => by
      obtain rfl : j = 0 := by omega
      have h := ho.1.cellAt 0 (by decide)
      simpa [row8] using h
    have hold : (Builtin.firstCells i0.size 1 (.slice (some ⟨b, 0, none⟩) 1 1)).run Try.prog w.drew = .ok ([Value.int .u8 (x : Int)] : List Value).toArray w.drew := by
      refine run_firstCells_some (P := Try.prog) w.drew i0.size 1 ⟨b, 0, none⟩ 1 1 [.int .u8 (x : Int)] (by rw [hz1]; rfl) (fun j u hu => ?_)
      cases j with
      | zero => simp at hu; subst hu; rw [Addr.add_lit]; exact hcell 0 (by omega)
      | succ j => simp at hu
    have hsrc : Src Try.prog i0.size 9 (.string s) s.size (row8 (sb s)) w := by
      rw [hz1, ← byteCells_row]; exact Src.ofString (P := Try.prog) w Try.underlying9 s
    have hcap : Builtin.nextslicecap (1 + s.size) 1 ≤ 2 * (1 + s.size) := nextslicecap_le (by omega)
    have hr := run_append_grow_src (P := Try.prog) w 33 9 ty 5 i0 (.int .u8 0) Try.underlying33 hi hz0 (some ⟨b, 0, none⟩) 1 1 [.int .u8 (x : Int)] hold (.string s) s.size (row8 (sb s)) hsrc (by omega) (by omega) (by rw [hz2]; omega)
    have hge := grownCap_ge w (1 + s.size) 1 5
    refine ⟨_, _, hr, ⟨⟨by rw [row8_len, Nat.mul_one], .inr ⟨_, _, _, by rw [hlen], hb, heap_alloc_new w.drew _, ?_, grownCap_le_maxLen w _ _ _ (by unfold maxLen; omega), ?_, ?_⟩⟩, hby, by rw [hlen]; omega⟩, ⟨rfl, rfl, rfl, by simp, fun k hk _ => Below.heap_alloc w.drew _ k hk⟩⟩
    · rw [hlen]; exact hge
    · rw [Array.size_append, size_zeroCells]
      simp [row8_len, sb_len, Value.cells]
      omega
    · rw [Array.toList_append, hlen]
      have e : ([Value.int .u8 (x : Int)] ++ row8 (sb s)).toArray.toList.length = (1 + s.size) * 1 := by simp [row8_len, sb_len]; omega
      rw [← e, List.take_left]
      rfl
theorem wpList_app_str {ops : Array Oper} {rest : List Oper} {o : Oper} {a : Act} {w : World} {Q : Exit → Act → World → Prop} (hgd : o.guard = none) (s x : Operand) (ho : o.op = .call { callee := .builtin .append, args := #[s, x], argTypes := #[33, 9] })
    (base b n : Nat) (t : ByteArray) (hs : a.eval s = .slice (some ⟨b, 0, none⟩) 1 1) (hx : a.eval x = .string t) (hv : Own w base (.slice (some ⟨b, 0, none⟩) 1 1) [n]) (ht : t.size ≤ 255) (hb : base ≤ w.heap.size)
    (h : ∀ v' w', Own w' base v' (n :: sb t) → w.grownBy w' none → wpList Try.prog ops Q rest (a.put o.dst v') w') : wpList Try.prog ops Q (o :: rest) a w :=
  wpList_plain hgd fun _ hK => by
    obtain ⟨v', w', hrun, h2, h3⟩ := run_app_str w o.type base b n t hv ht hb
    unfold Oper.wp
    simp only [execOp, ho, resolve, invoke, builtin, Sem.run_bind, Sem.run_pure, Result.andThen_ok, List.map_toArray, List.map_cons, List.map_nil, hs, hx, hrun]
    exact hK _ _ (h v' w' h2 h3)

set_option maxHeartbeats 400000 in
theorem text_long (s : ByteArray) (h : 255 < s.size) (w : World) : Calls Try.prog 35 #[.string s] w fun e w' => e = .returned (.tuple #[.slice none 0 0, .int .i64 5]) ∧ Below w.heap.size w w' := by
  go_enter Try.func35, Try.ntmps35
  go_wp2_with fail
  go_ret2
  exact ⟨rfl, Below.refl _ _⟩
set_option maxHeartbeats 400000 in
theorem text_short (s : ByteArray) (h : s.size ≤ 255) (w : World) : Calls Try.prog 35 #[.string s] w fun e w' => ∃ v, e = .returned (.tuple #[v, .int .i64 0]) ∧ Own w' w.heap.size v (s.size :: sb s) ∧ Below w.heap.size w w' := by
  have hx : ((s.size : Nat) : Int) % 256 = ((s.size : Nat) : Int) := by omega
  have hy : Own (w.alloc (.cells #[.int .u8 ((s.size : Nat) : Int)] 5)) w.heap.size (.slice (some ⟨w.heap.size, 0, none⟩) 1 1) [s.size] := by
    exact own_new w [s.size] (fun k => by cases k with | zero => show s.size < 256; omega | succ k => exact Nat.zero_lt_succ _) (by simp) rfl (Nat.le_refl _)
  have HY := Lib.hid hy
  clear hy
  go_enter Try.func35, Try.ntmps35
  go_wp2_with (refine wpList_app_str rfl (.tmp 10) (.tmp 11) rfl w.heap.size w.heap.size s.size s rfl rfl HY.out h (by simp) ?_; intro v1 w1 ho1 hg1; have HO1 := Lib.hid ho1; have HG1 := Lib.hid hg1; clear ho1 hg1)
  go_ret2
  exact ⟨_, rfl, HO1.out, ((Below.refl _ _).alloc (Nat.le_refl _) _).trans ((below_of_grown HG1.out).mono (by simp))⟩

set_option maxHeartbeats 400000 in
theorem rtext_long (s : ByteArray) (h : 255 < s.size) (w : World) : Calls Try.prog 37 #[.string s] w fun e w' => e = .returned (.tuple #[.slice none 0 0, .int .i64 5]) ∧ Below w.heap.size w w' := by
  go_enter Try.func37, Try.ntmps37
  go_wp2_with fail
  go_ret2
  exact ⟨rfl, Below.refl _ _⟩
set_option maxHeartbeats 400000 in
theorem rtext_short (s : ByteArray) (h : s.size ≤ 255) (w : World) : Calls Try.prog 37 #[.string s] w fun e w' => ∃ v, e = .returned (.tuple #[v, .int .i64 0]) ∧ Own w' w.heap.size v (s.size :: sb s) ∧ Below w.heap.size w w' := by
  have hx : ((s.size : Nat) : Int) % 256 = ((s.size : Nat) : Int) := by omega
  have hy : Own (w.alloc (.cells #[.int .u8 ((s.size : Nat) : Int)] 5)) w.heap.size (.slice (some ⟨w.heap.size, 0, none⟩) 1 1) [s.size] := by
    exact own_new w [s.size] (fun k => by cases k with | zero => show s.size < 256; omega | succ k => exact Nat.zero_lt_succ _) (by simp) rfl (Nat.le_refl _)
  have HY := Lib.hid hy
  clear hy
  go_enter Try.func37, Try.ntmps37
  go_wp2_with (refine wpList_app_str rfl (.tmp 10) (.tmp 11) rfl w.heap.size w.heap.size s.size s rfl rfl HY.out h (by simp) ?_; intro v1 w1 ho1 hg1; have HO1 := Lib.hid ho1; have HG1 := Lib.hid hg1; clear ho1 hg1)
  go_ret2
  exact ⟨_, rfl, HO1.out, ((Below.refl _ _).alloc (Nat.le_refl _) _).trans ((below_of_grown HG1.out).mono (by simp))⟩
end Go.Proofs.Ytkagapgganoomaa
